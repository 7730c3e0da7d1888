/-
  The method act of a pair, kinds 0, 1, 2, 4 and those that do nothing: it answers true, and the two logs stand alike behind it.
-/
import Derived.Test.YtldjfeodeodcmaaActs
import Derived.Deep.RegionHeld3
namespace Go.Proofs.Ytldjfeodeodcmaa
open Go.RowKit

/-- How a call of act ends: with true, and a list of lists; the pair as ActPost says. -/
def ActEnd (w : World) (la ra : Nat) (v t : Value) (T : List (Nat × Nat)) (e : Ending) (w' : World) : Prop := ∃ t' v' l' c' T', e = .returned (.tuple #[t', .bool true]) ∧ ActPost w la ra v t T w' t' v' l' c' T'
theorem ActEnd.mk {w w' : World} {la ra : Nat} {v t t' v' : Value} {l' : List Int} {c' : Bool} {T T' : List (Nat × Nat)} {e : Ending} (he : e = .returned (.tuple #[t', .bool true])) (h : ActPost w la ra v t T w' t' v' l' c' T') : ActEnd w la ra v t T e w' := ⟨t', v', l', c', T', he, h⟩
/-- What is to be shown of act at kind k. -/
def ActSaid (k : Int) : Prop := ∀ (la ra : Nat) (on n : Int) (t v : Value) (l : List Int) (c : Bool) (T : List (Nat × Nat)) (w : World), LogAt w la l c → RefAt w ra v l c → Told w t T → (∀ x, x ∈ T → x.1 ∉ ob v) → (T.map Prod.fst).Nodup → T.length ≤ 100000 →
    Calls Try.prog 9 #[.agg #[.pointer (some ⟨la, 0, none⟩), .pointer (some ⟨ra, 0, none⟩)], .agg #[.int .i64 k, .int .i64 on, .int .i64 n], t] w fun e w' => ActEnd w la ra v t T e w'

set_option maxRecDepth 100000 in
set_option maxHeartbeats 600000 in
theorem act_0 : ActSaid 0 := by
  intro la ra on n t v l c T w L R D hd hT _
  obtain ⟨hne, hvla⟩ := pair_apart L R
  have hla := L.lt
  have hra := block_lt R.1
  have hv := ob_lt R.2.1
  obtain ⟨W, eW, KW, b0, b1, b2, b3, hs⟩ := boxes w (.pointer (some ⟨la, 0, none⟩)) (.pointer (some ⟨ra, 0, none⟩)) (.int .i64 0) (.int .i64 on) (.int .i64 n)
  have HW : Hid ((w.alloc (Obj.cells #[.pointer (some ⟨la, 0, none⟩), .pointer (some ⟨ra, 0, none⟩)] 28)).alloc (Obj.cells #[.int .i64 0, .int .i64 on, .int .i64 n] 33) = W) := eW
  clear eW
  have P := PairSt.start L R KW
  have L1 := P.log
  have R1 := P.ref
  have HVL : Hid (∀ x, x ∈ ob v → x ≠ la) := hvla
  have HD : Hid (∀ x, x ∈ T → x.1 ∉ ob v) := hd
  have n0 : Hid (w.heap.size ∉ [la]) := show w.heap.size ∉ [la] by simp; omega
  have n1 : Hid (w.heap.size + 1 ∉ [la]) := show w.heap.size + 1 ∉ [la] by simp; omega
  have m0 : Hid (w.heap.size ∉ ra :: ob v) := show w.heap.size ∉ ra :: ob v from fun h => by rcases List.mem_cons.1 h with h | h; omega; exact absurd (hv _ h) (by omega)
  have m1 : Hid (w.heap.size + 1 ∉ ra :: ob v) := show w.heap.size + 1 ∉ ra :: ob v from fun h => by rcases List.mem_cons.1 h with h | h; omega; exact absurd (hv _ h) (by omega)
  clear hv hvla hd
  go_enter Try.func9, Try.ntmps9
  go_wp2_with fail
  rw [HW.out]
  go_region_held3 (fun w' => w'.cell? ⟨w.heap.size, 0, none⟩ = some (.pointer (some ⟨la, 0, none⟩)) ∧ w'.cell? ⟨w.heap.size, 1, none⟩ = some (.pointer (some ⟨ra, 0, none⟩)) ∧ w'.cell? ⟨w.heap.size + 1, 2, none⟩ = some (.int .i64 n)) (first | (simp [*]; done) | exact ⟨k3.cell (k2.cell b0 n0.out) m0.out, k3.cell (k2.cell b1 n0.out) m0.out, k3.cell (k2.cell b3 n1.out) m1.out⟩ | exact ⟨k2.cell b0 n0.out, k2.cell b1 n0.out, k2.cell b3 n1.out⟩) (first | (go_at_call 18; refine (note_all la l c n _ (by exact L1)).mono ?_; rintro e w2 ⟨rfl, L2, k2'⟩; have k2 := k2'.undrew; clear k2') | (go_at_call 21; refine (rnote_all ra v l c n _ (by exact R1.kept k2 (by simpa using hne.symm) (fun x hx => by simpa using HVL.out x hx))).mono ?_; rintro e w3 ⟨rfl, v3, R3, k3, a3⟩))
  go_wp2
  go_ret2
  exact ActEnd.mk (t' := t) (rfl) (ActPost.of_pair (P.step k2 L2 k3 R3 a3) L R D HD.out hT)

set_option maxRecDepth 100000 in
set_option maxHeartbeats 600000 in
theorem act_1 : ActSaid 1 := by
  intro la ra on n t v l c T w L R D hd hT _
  obtain ⟨hne, hvla⟩ := pair_apart L R
  have hla := L.lt
  have hra := block_lt R.1
  have hv := ob_lt R.2.1
  obtain ⟨W, eW, KW, b0, b1, b2, b3, hs⟩ := boxes w (.pointer (some ⟨la, 0, none⟩)) (.pointer (some ⟨ra, 0, none⟩)) (.int .i64 1) (.int .i64 on) (.int .i64 n)
  have HW : Hid ((w.alloc (Obj.cells #[.pointer (some ⟨la, 0, none⟩), .pointer (some ⟨ra, 0, none⟩)] 28)).alloc (Obj.cells #[.int .i64 1, .int .i64 on, .int .i64 n] 33) = W) := eW
  clear eW
  have P := PairSt.start L R KW
  have L1 := P.log
  have R1 := P.ref
  have HVL : Hid (∀ x, x ∈ ob v → x ≠ la) := hvla
  have HD : Hid (∀ x, x ∈ T → x.1 ∉ ob v) := hd
  have n0 : Hid (w.heap.size ∉ [la]) := show w.heap.size ∉ [la] by simp; omega
  have n1 : Hid (w.heap.size + 1 ∉ [la]) := show w.heap.size + 1 ∉ [la] by simp; omega
  have m0 : Hid (w.heap.size ∉ ra :: ob v) := show w.heap.size ∉ ra :: ob v from fun h => by rcases List.mem_cons.1 h with h | h; omega; exact absurd (hv _ h) (by omega)
  have m1 : Hid (w.heap.size + 1 ∉ ra :: ob v) := show w.heap.size + 1 ∉ ra :: ob v from fun h => by rcases List.mem_cons.1 h with h | h; omega; exact absurd (hv _ h) (by omega)
  clear hv hvla hd
  go_enter Try.func9, Try.ntmps9
  go_wp2_with fail
  rw [HW.out]
  refine (close_log la l c W L1).mono ?_
  rintro e w2 ⟨rfl, L2, g2⟩
  have k2 := Kept.of_grown g2
  have d1 := k2.cell b1 n0.out
  go_wp2_with fail
  refine (rclose_any ra v l c w2 (R1.kept k2 (by simpa using hne.symm) (fun x hx => by simpa using HVL.out x hx))).mono ?_
  rintro e w3 ⟨rfl, R3, k3⟩
  go_wp2
  go_ret2
  exact ActEnd.mk (t' := t) (rfl) (ActPost.of_pair (P.step k2 L2 (k3.mono (fun x hx => by simp at hx; simp [hx])) R3 (fun x hx => Or.inl hx)) L R D HD.out hT)

set_option maxRecDepth 100000 in
set_option maxHeartbeats 600000 in
theorem act_2 : ActSaid 2 := by
  intro la ra on n t v l c T w L R D hd hT _
  obtain ⟨hne, hvla⟩ := pair_apart L R
  have hla := L.lt
  have hra := block_lt R.1
  have hv := ob_lt R.2.1
  obtain ⟨W, eW, KW, b0, b1, b2, b3, hs⟩ := boxes w (.pointer (some ⟨la, 0, none⟩)) (.pointer (some ⟨ra, 0, none⟩)) (.int .i64 2) (.int .i64 on) (.int .i64 n)
  have HW : Hid ((w.alloc (Obj.cells #[.pointer (some ⟨la, 0, none⟩), .pointer (some ⟨ra, 0, none⟩)] 28)).alloc (Obj.cells #[.int .i64 2, .int .i64 on, .int .i64 n] 33) = W) := eW
  clear eW
  have P := PairSt.start L R KW
  have L1 := P.log
  have R1 := P.ref
  have HVL : Hid (∀ x, x ∈ ob v → x ≠ la) := hvla
  have HD : Hid (∀ x, x ∈ T → x.1 ∉ ob v) := hd
  have n0 : Hid (w.heap.size ∉ [la]) := show w.heap.size ∉ [la] by simp; omega
  have n1 : Hid (w.heap.size + 1 ∉ [la]) := show w.heap.size + 1 ∉ [la] by simp; omega
  have m0 : Hid (w.heap.size ∉ ra :: ob v) := show w.heap.size ∉ ra :: ob v from fun h => by rcases List.mem_cons.1 h with h | h; omega; exact absurd (hv _ h) (by omega)
  have m1 : Hid (w.heap.size + 1 ∉ ra :: ob v) := show w.heap.size + 1 ∉ ra :: ob v from fun h => by rcases List.mem_cons.1 h with h | h; omega; exact absurd (hv _ h) (by omega)
  clear hv hvla hd
  go_enter Try.func9, Try.ntmps9
  go_wp2_with fail
  rw [HW.out]
  go_region_held3 (fun w' => w'.cell? ⟨w.heap.size, 0, none⟩ = some (.pointer (some ⟨la, 0, none⟩)) ∧ w'.cell? ⟨w.heap.size, 1, none⟩ = some (.pointer (some ⟨ra, 0, none⟩)) ∧ w'.cell? ⟨w.heap.size + 1, 2, none⟩ = some (.int .i64 n)) ((simp [*]; done)) (first | (go_at_call 20; refine (closed_log la l c _ (by exact L1)).mono ?_; rintro e w2 ⟨rfl, rfl⟩) | (go_at_call 23; refine (rclosed_any ra v l c _ (by exact R1)).mono ?_; rintro e w3 ⟨rfl, rfl⟩))
  go_wp2
  go_ret2
  exact ActEnd.mk (t' := t) (by simp) (ActPost.of_pair (P.later ⟨rfl, rfl, rfl, Nat.le_refl _, fun _ _ _ => rfl⟩) L R D HD.out hT)

set_option maxRecDepth 100000 in
set_option maxHeartbeats 600000 in
theorem act_4 : ActSaid 4 := by
  intro la ra on n t v l c T w L R D hd hT _
  obtain ⟨hne, hvla⟩ := pair_apart L R
  have hla := L.lt
  have hra := block_lt R.1
  have hv := ob_lt R.2.1
  obtain ⟨W, eW, KW, b0, b1, b2, b3, hs⟩ := boxes w (.pointer (some ⟨la, 0, none⟩)) (.pointer (some ⟨ra, 0, none⟩)) (.int .i64 4) (.int .i64 on) (.int .i64 n)
  have HW : Hid ((w.alloc (Obj.cells #[.pointer (some ⟨la, 0, none⟩), .pointer (some ⟨ra, 0, none⟩)] 28)).alloc (Obj.cells #[.int .i64 4, .int .i64 on, .int .i64 n] 33) = W) := eW
  clear eW
  have P := PairSt.start L R KW
  have L1 := P.log
  have R1 := P.ref
  have HVL : Hid (∀ x, x ∈ ob v → x ≠ la) := hvla
  have HD : Hid (∀ x, x ∈ T → x.1 ∉ ob v) := hd
  have n0 : Hid (w.heap.size ∉ [la]) := show w.heap.size ∉ [la] by simp; omega
  have n1 : Hid (w.heap.size + 1 ∉ [la]) := show w.heap.size + 1 ∉ [la] by simp; omega
  have m0 : Hid (w.heap.size ∉ ra :: ob v) := show w.heap.size ∉ ra :: ob v from fun h => by rcases List.mem_cons.1 h with h | h; omega; exact absurd (hv _ h) (by omega)
  have m1 : Hid (w.heap.size + 1 ∉ ra :: ob v) := show w.heap.size + 1 ∉ ra :: ob v from fun h => by rcases List.mem_cons.1 h with h | h; omega; exact absurd (hv _ h) (by omega)
  clear hv hvla hd
  go_enter Try.func9, Try.ntmps9
  go_wp2_with fail
  rw [HW.out]
  go_region_held3 (fun w' => w'.cell? ⟨w.heap.size, 0, none⟩ = some (.pointer (some ⟨la, 0, none⟩)) ∧ w'.cell? ⟨w.heap.size, 1, none⟩ = some (.pointer (some ⟨ra, 0, none⟩)) ∧ w'.cell? ⟨w.heap.size + 1, 2, none⟩ = some (.int .i64 n)) (first | (simp [*]; done) | exact ⟨k2.cell b0 (by simp), k2.cell b1 (by simp), k2.cell b3 (by simp)⟩) (first | (go_at_call 19; refine (first_log la l c n _ (by exact L1)).mono ?_; rintro e w2 ⟨rfl, rfl⟩) | (go_at_call 24; refine (rfirst_any ra v l c n _ (by exact R1)).mono ?_; rintro e w3 ⟨rfl, g3⟩; have k2 := (Kept.of_grown g3).undrew; clear g3))
  go_wp2
  go_ret2
  exact ActEnd.mk (t' := t) (by simp) (ActPost.of_pair (P.later k2) L R D HD.out hT)

set_option maxRecDepth 100000 in
set_option maxHeartbeats 600000 in
theorem act_else (k : Int) (h0 : (k == 0) = false) (h1 : (k == 1) = false) (h2 : (k == 2) = false) (h3 : (k == 3) = false) (h4 : (k == 4) = false) (h5 : (k == 5) = false) : ActSaid k := by
  intro la ra on n t v l c T w L R D hd hT _
  obtain ⟨hne, hvla⟩ := pair_apart L R
  have hla := L.lt
  have hra := block_lt R.1
  have hv := ob_lt R.2.1
  obtain ⟨W, eW, KW, b0, b1, b2, b3, hs⟩ := boxes w (.pointer (some ⟨la, 0, none⟩)) (.pointer (some ⟨ra, 0, none⟩)) (.int .i64 k) (.int .i64 on) (.int .i64 n)
  have HW : Hid ((w.alloc (Obj.cells #[.pointer (some ⟨la, 0, none⟩), .pointer (some ⟨ra, 0, none⟩)] 28)).alloc (Obj.cells #[.int .i64 k, .int .i64 on, .int .i64 n] 33) = W) := eW
  clear eW
  have P := PairSt.start L R KW
  have L1 := P.log
  have R1 := P.ref
  have HVL : Hid (∀ x, x ∈ ob v → x ≠ la) := hvla
  have HD : Hid (∀ x, x ∈ T → x.1 ∉ ob v) := hd
  have n0 : Hid (w.heap.size ∉ [la]) := show w.heap.size ∉ [la] by simp; omega
  have n1 : Hid (w.heap.size + 1 ∉ [la]) := show w.heap.size + 1 ∉ [la] by simp; omega
  have m0 : Hid (w.heap.size ∉ ra :: ob v) := show w.heap.size ∉ ra :: ob v from fun h => by rcases List.mem_cons.1 h with h | h; omega; exact absurd (hv _ h) (by omega)
  have m1 : Hid (w.heap.size + 1 ∉ ra :: ob v) := show w.heap.size + 1 ∉ ra :: ob v from fun h => by rcases List.mem_cons.1 h with h | h; omega; exact absurd (hv _ h) (by omega)
  clear hv hvla hd
  go_enter Try.func9, Try.ntmps9
  go_wp2
  go_ret2
  rw [HW.out]
  exact ActEnd.mk (t' := t) (rfl) (ActPost.of_pair P L R D HD.out hT)

end Go.Proofs.Ytldjfeodeodcmaa
