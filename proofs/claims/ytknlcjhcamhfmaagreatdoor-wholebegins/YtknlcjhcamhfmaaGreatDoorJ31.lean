/-
  CopyParts: the same parts, in new memory.
  LentParts, SameParts, KeptParts: a list is lent with two more behind it; two lists are held against each other; a lent list is as it was.
  KeptParts: is a lent list as it was? LentCard: a card with its parts lent.
  Lists of parts that are written over: OverParts; markParts.
  BookScript: a pair of books; a card is added to both.
  What the document's own answer for rank says (gambitref02), and the helper needs of the law; each touches nothing that was there.
  The six suits' numbers, as the document tells them.
-/
import Derived.Test.YtknlcjhcamhfmaaGreatDoorJ3
import Derived.Test.YtknlcjhcamhfmaaGreatDoorJ13
import Derived.OwnWalk
import Derived.Test.YtknlcjhcamhfmaaGreatDoorRCa
namespace Go.Proofs.YtknlcjhcamhfmaaGreatDoor
open Go.RowKit

end Go.Proofs.YtknlcjhcamhfmaaGreatDoor
namespace Go.Proofs.YtknlcjhcamhfmaaGreatDoor
open Go.RowKit

def mkP : Pt := ⟨0, 0, 0, 0, 0, 0, 0, ⟨#[109, 97, 114, 107]⟩⟩
theorem mk_cells {w : World} {g : Nat} (h : w.heap[g]? = some (.cells #[.int .u8 0, .int .u8 0, .int .u8 0, .int .i64 0, .int .u8 0, .int .u8 0, .int .u8 0, .string ⟨#[109, 97, 114, 107]⟩, .int .u8 0, .int .u8 0, .int .u8 0, .int .i64 0, .int .u8 0, .int .u8 0, .int .u8 0, .string ⟨#[109, 97, 114, 107]⟩] 115 (0, 0))) : ∀ j u, (pcells [mkP, mkP])[j]? = some u → w.cell? ((⟨g, 0, none⟩ : Addr).add j) = some u := fun j u hu => by
  rw [add_plain, Nat.zero_add, block_cell h]
  simpa [pcells, pvs, mkP] using hu
theorem own_app {w : World} {base : Nat} {v : Value} {a b : List Pt} (h : w.ownsRow base 115 8 v (a.length + b.length) (pcells a ++ pcells b)) : POwn w base v (a ++ b) := by
  unfold POwn
  rw [List.length_append, pcells_app]
  exact h
end Go.Proofs.YtknlcjhcamhfmaaGreatDoor
namespace Go.Proofs.YtknlcjhcamhfmaaGreatDoor
open Go.RowKit

end Go.Proofs.YtknlcjhcamhfmaaGreatDoor
namespace Go.Proofs.YtknlcjhcamhfmaaGreatDoor
open Go.RowKit

/-- A block that has room for so many parts. -/
def RoomAt (w : World) (g cap : Nat) : Prop := ∃ cs, w.heap[g]? = some (.cells cs 115 (0, 0)) ∧ cs.size = cap * 8
theorem RoomAt.keep {w w' : World} {g cap : Nat} {r : Option Nat} (h : RoomAt w g cap) (k : w.grownBy w' r) (hr : some g ≠ r) : RoomAt w' g cap := by
  obtain ⟨cs, h1, h2⟩ := h
  exact ⟨cs, grown_keep k h1 hr, h2⟩
theorem RoomAt.cell {w : World} {g cap : Nat} (h : RoomAt w g cap) {i : Nat} (hi : i < cap * 8) : ∃ u, w.cell? ⟨g, i, none⟩ = some u := by
  obtain ⟨cs, h1, h2⟩ := h
  exact ⟨cs[i]'(by omega), by rw [block_cell h1]; exact Array.getElem?_eq_getElem (by omega)⟩
theorem RoomAt.free {w : World} {g cap : Nat} (h : RoomAt w g cap) (i : Nat) : w.frozen? ⟨g, i, none⟩ = false := by
  obtain ⟨cs, h1, _⟩ := h
  exact block_free h1 i
theorem RoomAt.set {w : World} {g cap : Nat} (h : RoomAt w g cap) (i : Nat) (v : Value) : RoomAt (w.setCell ⟨g, i, none⟩ v) g cap := by
  obtain ⟨cs, h1, h2⟩ := h
  exact ⟨cs.setIfInBounds i v, block_set h1 i v, by simpa using h2⟩
theorem own_room {w : World} {base g n cap : Nat} {ps : List Pt} (h : POwn w base (.slice (some ⟨g, 0, none⟩) n cap) ps) : RoomAt w g cap ∧ cap ≤ maxLen ∧ base ≤ g := by
  obtain ⟨_, ⟨e, _⟩ | ⟨g', cap', cur, e, hb, hh, _, hc, hz, _⟩⟩ := h
  · cases e
  · injection e with e1 _ e3
    injection e1 with e1
    injection e1 with e1
    subst e1
    subst e3
    exact ⟨⟨cur, hh, hz⟩, hc, hb⟩
def lim (n : Nat) : Prop := n ≤ maxLen
theorem lim.wrap {n k : Nat} (h : lim n) (hk : k < n) : wrap64 ((k : Int) + 1) = (k : Int) + 1 := by unfold lim maxLen at h; unfold wrap64; omega
/-- What is written at place k of list i. -/
def mkN (i k : Int) : Int := wrap64 (wrap64 (wrap64 (-1000003 * i) - k) - 5)
def mkM (i k : Int) : Pt := ⟨0, 0, 0, mkN i k, 0, 0, 0, ⟨#[]⟩⟩
end Go.Proofs.YtknlcjhcamhfmaaGreatDoor
namespace Go.Proofs.YtknlcjhcamhfmaaGreatDoor
open Go.RowKit

/-- A book beside the document's. -/
structure Pr (ok : Nat → Prop) (w : World) (b r : Nat) (v : Value) (es fs : List Ent) (p : Pl) : Prop where
  book : Book ok w b es p
  rj : RJ w r v p
  rl : RL w v fs
  own : ∀ k, v.ownBlock = some k → ok k ∧ k < w.heap.size
  good : Good ok w fs
  same : es.map hp = fs.map hp
  mkd : MkD p
  zero : p.nms[0]? = some ⟨#[]⟩
theorem hp_len {es fs : List Ent} (h : es.map hp = fs.map hp) : es.length = fs.length := by have := congrArg List.length h; simpa using this
theorem hp_names {es fs : List Ent} (h : es.map hp = fs.map hp) : names es = names fs := by
  have := congrArg (List.map fun x : Hd × List Pt => x.1.nm) h
  rw [List.map_map, List.map_map] at this
  exact this
theorem hp_caE {es fs : List Ent} (h : es.map hp = fs.map hp) (p : Pl) (c : Cd) : caE p es c = caE p fs c := by
  unfold caE
  rw [hp_names h, hp_len h]
theorem hp_rk : ∀ {es fs : List Ent} (_ : es.map hp = fs.map hp) (h : Hd), rk es h = rk fs h
  | [], [], _, _ => rfl
  | [], _ :: _, e, _ => by simp at e
  | _ :: _, [], e, _ => by simp at e
  | x :: r, y :: t, e, h => by
    rw [List.map_cons, List.map_cons] at e
    injection e with e1 e2
    injection e1 with e1 _
    simp only [rk]
    rw [e1, hp_rk e2 h]
theorem hp_ins {es fs : List Ent} (h : es.map hp = fs.map hp) (hd : Hd) (u u' : Value) (ps : List Pt) : (ins es ⟨hd, u, ps⟩).map hp = (ins fs ⟨hd, u', ps⟩).map hp := by
  unfold ins
  simp only [List.map_append, List.map_cons, List.map_take, List.map_drop]
  rw [h, hp_rk h]
  rfl
/-- One book is written, then the other. -/
def Both2 (w w' : World) (b r : Nat) : Prop := ∃ x, w.grownBy x (some b) ∧ x.grownBy w' (some r)
theorem grown_new {a x y : World} {r : Option Nat} {g : Nat} (h : a.grownBy x r) (k : x.grownBy y (some g)) (hg : a.heap.size ≤ g) : a.grownBy y r := by
  obtain ⟨h1, h2, h3, h4, h5⟩ := h
  obtain ⟨k1, k2, k3, k4, k5⟩ := k
  refine ⟨k1.trans h1, k2.trans h2, k3.trans h3, Nat.le_trans h4 k4, fun j hj hr => ?_⟩
  rw [k5 j (by omega) (fun e => by cases e; omega)]
  exact h5 j hj hr
theorem PsAt.pre {w : World} {g cap n : Nat} {ps qs : List Pt} (h : PsAt w (.slice (some ⟨g, 0, none⟩) n cap) (ps ++ qs)) : PsAt w (.slice (some ⟨g, 0, none⟩) ps.length cap) ps := by
  rcases h with ⟨e, _⟩ | ⟨ad, cp, e, hc, hcell⟩
  · cases e
  · injection e with e1 e2 e3
    injection e1 with e1
    subst e1
    subst e3
    refine Or.inr ⟨_, _, rfl, by rw [List.length_append] at hc; omega, fun j u hu => hcell j u ?_⟩
    rw [pcells_app, List.getElem?_append_left (List.getElem?_eq_some_iff.1 hu).1]
    exact hu
end Go.Proofs.YtknlcjhcamhfmaaGreatDoor
namespace Go.Proofs.YtknlcjhcamhfmaaGreatDoor
open Go.RowKit

set_option maxHeartbeats 1000000 in
theorem rv0 (w : World) : Calls Tryz.prog 242 #[.int .i64 0] w fun e w' => e = .returned (.int .i64 3) ∧ w' = w := by
  go_enter Tryz.func242, Tryz.ntmps242
  go_wp2
  go_ret
  exact ⟨rfl, rfl⟩
set_option maxHeartbeats 1000000 in
theorem rv1 (w : World) : Calls Tryz.prog 242 #[.int .i64 1] w fun e w' => e = .returned (.int .i64 2) ∧ w' = w := by
  go_enter Tryz.func242, Tryz.ntmps242
  go_wp2_with (go_at_call 242; refine (rv0 _).mono ?_; rintro e w' ⟨rfl, rfl⟩)
  go_ret
  exact ⟨rfl, rfl⟩
set_option maxHeartbeats 1000000 in
theorem rv2 (w : World) : Calls Tryz.prog 242 #[.int .i64 2] w fun e w' => e = .returned (.int .i64 7) ∧ w' = w := by
  go_enter Tryz.func242, Tryz.ntmps242
  go_wp2_with (go_at_call 242; refine (rv0 _).mono ?_; rintro e w' ⟨rfl, rfl⟩)
  go_ret
  exact ⟨rfl, rfl⟩
set_option maxHeartbeats 1000000 in
theorem rv3 (w : World) : Calls Tryz.prog 242 #[.int .i64 3] w fun e w' => e = .returned (.int .i64 11) ∧ w' = w := by
  go_enter Tryz.func242, Tryz.ntmps242
  go_wp2_with fail
  refine (rv2 _).mono ?_
  rintro e w1 ⟨rfl, rfl⟩
  go_wp2_with fail
  refine (rv1 _).mono ?_
  rintro e w2 ⟨rfl, rfl⟩
  go_wp2
  go_ret
  exact ⟨rfl, rfl⟩
set_option maxHeartbeats 1000000 in
theorem rv4 (w : World) : Calls Tryz.prog 242 #[.int .i64 4] w fun e w' => e = .returned (.int .i64 18) ∧ w' = w := by
  go_enter Tryz.func242, Tryz.ntmps242
  go_wp2_with fail
  refine (rv3 _).mono ?_
  rintro e w1 ⟨rfl, rfl⟩
  go_wp2_with fail
  refine (rv2 _).mono ?_
  rintro e w2 ⟨rfl, rfl⟩
  go_wp2
  go_ret
  exact ⟨rfl, rfl⟩
theorem rv_five (k : Int) (hk : Five k) (w : World) : Calls Tryz.prog 242 #[.int .i64 k] w fun e w' => e = .returned (.int .i64 (ansV k)) ∧ w' = w := by
  rcases hk with rfl | rfl | rfl | rfl | rfl
  · exact rv0 w
  · exact rv1 w
  · exact rv2 w
  · exact rv3 w
  · exact rv4 w

/-- The numbers that a number names, in memory of their own. -/
def NamesOf (k : Int) (l : List Int) : Prop := ∀ w, Calls Tryz.prog 270 #[.int .i64 k] w fun e w' => e = .returned (.slice (some ⟨w.heap.size, 0, none⟩) l.length l.length) ∧ w'.heap[w.heap.size]? = some (.cells (ints l).toArray 3 (0, 0)) ∧ w.grownBy w' none
set_option maxHeartbeats 1000000 in
theorem rn0 (w : World) : Calls Tryz.prog 270 #[.int .i64 0] w fun e w' => e = .returned (.slice none 0 0) ∧ w' = w := by
  go_enter Tryz.func270, Tryz.ntmps270
  go_wp2
  go_ret
  exact ⟨rfl, rfl⟩
set_option maxHeartbeats 1000000 in
theorem rn1 : NamesOf 1 [0, 2] := by
  intro w
  go_enter Tryz.func270, Tryz.ntmps270
  go_wp2
  go_ret
  exact ⟨rfl, alloc_at _ _ _, World.grownBy_alloc _ _ _⟩
set_option maxHeartbeats 1000000 in
theorem rn2 : NamesOf 2 [0] := by
  intro w
  go_enter Tryz.func270, Tryz.ntmps270
  go_wp2
  go_ret
  exact ⟨rfl, alloc_at _ _ _, World.grownBy_alloc _ _ _⟩
set_option maxHeartbeats 1000000 in
theorem rn3 : NamesOf 3 [2, 1] := by
  intro w
  go_enter Tryz.func270, Tryz.ntmps270
  go_wp2
  go_ret
  exact ⟨rfl, alloc_at _ _ _, World.grownBy_alloc _ _ _⟩
set_option maxHeartbeats 1000000 in
theorem rn4 : NamesOf 4 [3, 2] := by
  intro w
  go_enter Tryz.func270, Tryz.ntmps270
  go_wp2
  go_ret
  exact ⟨rfl, alloc_at _ _ _, World.grownBy_alloc _ _ _⟩
set_option maxHeartbeats 1000000 in
theorem rt0 (w : World) : Calls Tryz.prog 243 #[.int .i64 0] w fun e w' => e = .returned (.int .i64 1) ∧ w.grownBy w' none := by
  go_enter Tryz.func243, Tryz.ntmps243
  go_wp2_with (go_at_call 270; refine (rn0 _).mono ?_; rintro e w' ⟨rfl, rfl⟩)
  go_loop [3, 5] (fun m i => m = .int .i64 0 ∧ i = .int .i64 0) (fun _ _ => 0)
  case atStart => exact ⟨rfl, rfl⟩
  case round =>
    obtain ⟨rfl, rfl⟩ := hrel
    go_wp2
    go_ret
    exact ⟨rfl, grown_refl _ _⟩
/-- The greatest turn of some numbers. -/
def mostT (l : List Int) : Int := l.foldl (fun m x => max m (ansT x)) 0
theorem mostT_take (l : List Int) (k : Nat) (h : k < l.length) : mostT (l.take (k + 1)) = max (mostT (l.take k)) (ansT (l.getD k 0)) := by
  unfold mostT
  rw [List.take_succ_eq_append_getElem h, List.foldl_append, getD_lt _ _ h]; rfl
theorem ansT_le (k : Int) : 0 ≤ ansT k ∧ ansT k ≤ 5 := by unfold ansT; repeat (split; omega); omega
theorem mostT_le (l : List Int) : 0 ≤ mostT l ∧ mostT l ≤ 5 := by
  have : ∀ (l : List Int) (t : Int), 0 ≤ t ∧ t ≤ 5 → 0 ≤ l.foldl (fun m x => max m (ansT x)) t ∧ l.foldl (fun m x => max m (ansT x)) t ≤ 5 := by
    intro l
    induction l with
    | nil => intro t h; exact h
    | cons m l ih =>
      intro t ht
      refine ih _ ?_
      have := ansT_le m
      show 0 ≤ max t (ansT m) ∧ max t (ansT m) ≤ 5
      omega
  exact this l 0 (by omega)
set_option maxRecDepth 100000 in
set_option maxHeartbeats 1000000 in
theorem rt_list (k : Int) (l : List Int) (t : Int) (hl : l.length ≤ 10) (hn : NamesOf k l) (hT : ∀ x ∈ l, ∀ w, Calls Tryz.prog 243 #[.int .i64 x] w fun e w' => e = .returned (.int .i64 (ansT x)) ∧ w.grownBy w' none) (ht : mostT l + 1 = t) (w : World) : Calls Tryz.prog 243 #[.int .i64 k] w fun e w' => e = .returned (.int .i64 t) ∧ w.grownBy w' none := by
  have HT : Hid (∀ x ∈ l, ∀ w, Calls Tryz.prog 243 #[.int .i64 x] w fun e w' => e = .returned (.int .i64 (ansT x)) ∧ w.grownBy w' none) := hT
  have Ht : Hid (mostT l + 1 = t) := ht
  clear hT ht
  go_enter Tryz.func243, Tryz.ntmps243
  go_wp2_with fail
  refine (hn _).mono ?_
  rintro e w1 ⟨rfl, B1, G1⟩
  have HB : Hid (w1.heap[w.heap.size]? = some (.cells (ints l).toArray 3 (0, 0))) := B1
  have HG : Hid (w.grownBy w1 none) := G1
  clear B1 G1 hn
  go_wp2_with fail
  go_loopw [3, 5] (fun m i wr => ∃ j : Nat, j ≤ l.length ∧ m = .int .i64 (mostT (l.take j)) ∧ i = .int .i64 j ∧ w1.grownBy wr none) (fun _ i _ => l.length - (intOf i).toNat)
  case atStart => exact ⟨0, Nat.zero_le _, rfl, rfl, grown_refl _ _⟩
  case round =>
    obtain ⟨j, hj, rfl, rfl, G⟩ := hrel
    by_cases hlt : j < l.length
    · have cj : wr.cell? ⟨w.heap.size, j, none⟩ = some (.int .i64 (l.getD j 0)) := (block_cell (grown_keep G HB.out (by simp)) j).trans (by simpa using ints_at l j hlt)
      have hx := HT.out (l.getD j 0) (by rw [getD_lt _ _ hlt]; exact List.getElem_mem hlt)
      have hm := mostT_le (l.take j)
      have ha := ansT_le (l.getD j 0)
      have HK : Hid (mostT (l.take (j + 1)) = max (mostT (l.take j)) (ansT (l.getD j 0))) := mostT_take l j hlt
      generalize mostT (l.take j) = m at *
      generalize l.getD j 0 = x at *
      generalize ansT x = a at *
      go_wp2_with fail
      refine (hx _).mono ?_
      rintro e w2 ⟨rfl, g2⟩
      clear cj hx
      go_wp2
      go_roundw
      case rel => exact ⟨j + 1, by omega, int_eq (by first | (rw [HK.out]; exact max_if _ _) | rw [HK.out]), by go_num, grown_trans G g2⟩
      case measure => simp [intOf]; omega
    · have ej : j = l.length := by omega
      subst ej
      rw [List.take_length]
      have hm := mostT_le l
      have e := Ht.out
      generalize mostT l = m at *
      go_wp2
      go_ret
      exact ⟨by first | rfl | exact ret_int e, grown_trans HG.out G⟩
theorem rt_zero (w : World) : Calls Tryz.prog 243 #[.int .i64 0] w fun e w' => e = .returned (.int .i64 (ansT 0)) ∧ w.grownBy w' none := rt0 w
theorem rt2 (w : World) : Calls Tryz.prog 243 #[.int .i64 2] w fun e w' => e = .returned (.int .i64 (ansT 2)) ∧ w.grownBy w' none :=
  rt_list 2 [0] _ (by simp) rn2 (fun x hx => by have e : x = 0 := by simpa using hx
                                                subst e; exact rt_zero) (by decide) w
theorem rt1 (w : World) : Calls Tryz.prog 243 #[.int .i64 1] w fun e w' => e = .returned (.int .i64 (ansT 1)) ∧ w.grownBy w' none :=
  rt_list 1 [0, 2] _ (by simp) rn1 (fun x hx => by have e : x = 0 ∨ x = 2 := by simpa using hx
                                                   rcases e with rfl | rfl; exact rt_zero; exact rt2) (by decide) w
theorem rt3 (w : World) : Calls Tryz.prog 243 #[.int .i64 3] w fun e w' => e = .returned (.int .i64 (ansT 3)) ∧ w.grownBy w' none :=
  rt_list 3 [2, 1] _ (by simp) rn3 (fun x hx => by have e : x = 2 ∨ x = 1 := by simpa using hx
                                                   rcases e with rfl | rfl; exact rt2; exact rt1) (by decide) w
theorem rt4 (w : World) : Calls Tryz.prog 243 #[.int .i64 4] w fun e w' => e = .returned (.int .i64 (ansT 4)) ∧ w.grownBy w' none :=
  rt_list 4 [3, 2] _ (by simp) rn4 (fun x hx => by have e : x = 3 ∨ x = 2 := by simpa using hx
                                                   rcases e with rfl | rfl; exact rt3; exact rt2) (by decide) w
theorem rt_five (k : Int) (hk : Five k) (w : World) : Calls Tryz.prog 243 #[.int .i64 k] w fun e w' => e = .returned (.int .i64 (ansT k)) ∧ w.grownBy w' none := by
  rcases hk with rfl | rfl | rfl | rfl | rfl
  · exact rt_zero w
  · exact rt1 w
  · exact rt2 w
  · exact rt3 w
  · exact rt4 w
set_option maxHeartbeats 1000000 in
theorem rof_any (k : Int) (w : World) : Calls Tryz.prog 191 #[.int .i64 k] w fun e w' => e = .returned (.tuple #[.int .i64 (ansV k), .int .i64 (ansT k), .int .i64 (ansE k)]) ∧ w.grownBy w' none := by
  rcases five_or k with h | h
  · have hk : 0 ≤ k ∧ k ≤ 4 := by unfold Five at h; omega
    have e0 : ansE k = 0 := by rcases h with rfl | rfl | rfl | rfl | rfl <;> rfl
    have h1 : ¬ k < 0 := by omega
    have h2 : ¬ 4 < k := by omega
    rw [e0]
    generalize hv : ansV k = v at *
    generalize ht : ansT k = t at *
    have HV : Hid (ansV k = v) := hv
    have HT : Hid (ansT k = t) := ht
    have H : Hid (Five k) := h
    clear hv ht h e0 hk
    go_enter Tryz.func191, Tryz.ntmps191
    go_wp2_with fail
    refine (rv_five k H.out _).mono ?_
    rintro e w1 ⟨rfl, rfl⟩
    rw [HV.out]
    go_wp2_with fail
    refine (rt_five k H.out _).mono ?_
    rintro e w2 ⟨rfl, g2⟩
    rw [HT.out]
    go_wp2
    go_ret3
    exact ⟨rfl, g2⟩
  · obtain ⟨h1, h2, h3⟩ := ans_none k h
    rw [h1, h2, h3]
    clear h1 h2 h3
    rcases h with h | h
    · go_enter Tryz.func191, Tryz.ntmps191
      go_wp2
      go_ret3
      exact ⟨rfl, grown_refl _ _⟩
    · have h0 : ¬ k < 0 := by omega
      go_enter Tryz.func191, Tryz.ntmps191
      go_wp2
      go_ret3
      exact ⟨rfl, grown_refl _ _⟩
end Go.Proofs.YtknlcjhcamhfmaaGreatDoor
namespace Go.Proofs.YtknlcjhcamhfmaaGreatDoor
open Go.RowKit

set_option maxHeartbeats 1000000 in
theorem rnumber8 (w : World) : Calls Tryz.prog 117 #[] w fun e w' => e = .returned (.int .i64 27) ∧ w.grownBy w' none := by
  go_enter Tryz.func117, Tryz.ntmps117
  go_wp2_with fail
  refine (rof_any 2 _).mono ?_
  rintro e w1 ⟨rfl, g1⟩
  rw [show ansV 2 = 7 from rfl, show ansT 2 = 2 from rfl, show ansE 2 = 0 from rfl]
  go_wp2
  go_ret
  exact ⟨rfl, g1⟩
set_option maxHeartbeats 1000000 in
theorem rweight2 (w : World) : Calls Tryz.prog 192 #[.int .u8 2] w fun e w' => e = .returned (.int .i64 2) ∧ w.grownBy w' none := by
  have i : Calls Tryz.prog 244 #[.int .u8 2] w fun e w' => e = .returned (.bool true) ∧ w' = w := by
    go_enter Tryz.func244, Tryz.ntmps244
    go_wp2
    go_ret
    exact ⟨rfl, rfl⟩
  go_enter Tryz.func192, Tryz.ntmps192
  go_wp2_with fail
  refine i.mono ?_
  rintro e w1 ⟨rfl, h1⟩
  obtain rfl : w = w1 := h1.symm
  go_wp2_with fail
  refine (rof_any 1 _).mono ?_
  rintro e w1 ⟨rfl, g1⟩
  rw [show ansV 1 = 2 from rfl, show ansT 1 = 3 from rfl, show ansE 1 = 0 from rfl]
  go_wp2
  go_ret
  exact ⟨rfl, g1⟩
set_option maxHeartbeats 1000000 in
theorem rnumber9 (w : World) : Calls Tryz.prog 121 #[] w fun e w' => e = .returned (.int .i64 31) ∧ w.grownBy w' none := by
  go_enter Tryz.func121, Tryz.ntmps121
  go_wp2_with fail
  refine (rof_any 3 _).mono ?_
  rintro e w1 ⟨rfl, g1⟩
  rw [show ansV 3 = 11 from rfl, show ansT 3 = 4 from rfl, show ansE 3 = 0 from rfl]
  go_wp2_with fail
  refine (rweight2 _).mono ?_
  rintro e w2 ⟨rfl, g2⟩
  go_wp2
  go_ret
  exact ⟨rfl, grown_trans g1 g2⟩
set_option maxHeartbeats 1000000 in
theorem rnumber10 (w : World) : Calls Tryz.prog 125 #[] w fun e w' => e = .returned (.int .i64 68) ∧ w' = w := by
  go_enter Tryz.func125, Tryz.ntmps125
  go_wp2
  go_ret
  exact ⟨rfl, rfl⟩
set_option maxHeartbeats 1000000 in
theorem rnumber11 (w : World) : Calls Tryz.prog 129 #[] w fun e w' => e = .returned (.int .i64 51) ∧ w.grownBy w' none := by
  go_enter Tryz.func129, Tryz.ntmps129
  go_wp2_with fail
  refine (rof_any 3 _).mono ?_
  rintro e w1 ⟨rfl, g1⟩
  rw [show ansV 3 = 11 from rfl, show ansT 3 = 4 from rfl, show ansE 3 = 0 from rfl]
  go_wp2
  go_ret
  exact ⟨rfl, g1⟩
set_option maxHeartbeats 1000000 in
theorem rweight5 (w : World) : Calls Tryz.prog 192 #[.int .u8 5] w fun e w' => e = .returned (.int .i64 18) ∧ w.grownBy w' none := by
  have i : Calls Tryz.prog 244 #[.int .u8 5] w fun e w' => e = .returned (.bool true) ∧ w' = w := by
    go_enter Tryz.func244, Tryz.ntmps244
    go_wp2
    go_ret
    exact ⟨rfl, rfl⟩
  go_enter Tryz.func192, Tryz.ntmps192
  go_wp2_with fail
  refine i.mono ?_
  rintro e w1 ⟨rfl, h1⟩
  obtain rfl : w = w1 := h1.symm
  go_wp2_with fail
  refine (rof_any 4 _).mono ?_
  rintro e w1 ⟨rfl, g1⟩
  rw [show ansV 4 = 18 from rfl, show ansT 4 = 5 from rfl, show ansE 4 = 0 from rfl]
  go_wp2
  go_ret
  exact ⟨rfl, g1⟩
set_option maxHeartbeats 1000000 in
theorem rnumber12 (w : World) : Calls Tryz.prog 133 #[] w fun e w' => e = .returned (.int .i64 147) ∧ w.grownBy w' none := by
  go_enter Tryz.func133, Tryz.ntmps133
  go_wp2_with fail
  refine (rnumber8 _).mono ?_
  rintro e w1 ⟨rfl, g1⟩
  go_wp2_with fail
  refine (rnumber11 _).mono ?_
  rintro e w2 ⟨rfl, g2⟩
  go_wp2_with fail
  refine (rweight5 _).mono ?_
  rintro e w3 ⟨rfl, g3⟩
  go_wp2
  go_ret
  exact ⟨rfl, grown_trans g1 (grown_trans g2 g3)⟩
set_option maxHeartbeats 1000000 in
theorem rnumber13 (w : World) : Calls Tryz.prog 137 #[] w fun e w' => e = .returned (.int .i64 215) ∧ w.grownBy w' none := by
  go_enter Tryz.func137, Tryz.ntmps137
  go_wp2_with fail
  refine (rnumber10 _).mono ?_
  rintro e w1 ⟨rfl, h1⟩
  have g1 : w.grownBy w1 none := h1 ▸ grown_refl _ _
  clear h1
  go_wp2_with fail
  refine (rnumber12 _).mono ?_
  rintro e w2 ⟨rfl, g2⟩
  go_wp2
  go_ret
  exact ⟨rfl, grown_trans g1 g2⟩
end Go.Proofs.YtknlcjhcamhfmaaGreatDoor
