/-
  The method act of a pair, kind 3: the list of a log is told, and is the document's.
-/
import Derived.Test.YtldjfeodeodcmaaKinds
import Derived.Deep.AppendLies
namespace Go.Proofs.Ytldjfeodeodcmaa
open Go.RowKit

theorem Kept.alloc {S : List Nat} {a b : World} (h : Kept S a b) (o : Obj) : Kept S a (b.alloc o) :=
  h.trans (S := S) (T := []) (Kept.of_grown (r := none) (World.grownBy_alloc b o none)) (by simp)
theorem Kept.grow {S : List Nat} {a b c : World} (h : Kept S a b) (g : b.grownBy c none) : Kept S a c := h.trans (Kept.of_grown g) (by simp)
theorem Kept.weak {S : List Nat} {a b : World} (h : Kept [] a b) : Kept S a b := h.mono (by simp)
theorem Kept.onto {a b c : World} {t : Value} (h : Kept [] a b) (g : b.grownBy c t.ownBlock) : Kept (ob t) a c := (h.weak).trans (Kept.of_grown g) (fun _ hx => Or.inl hx)
theorem grown_of_drewN {w w' : World} {n : Nat} (h : w' = w.drewN n) : w.grownBy w' none := by rw [h]; exact grown_drewN _ _ _
theorem own_later {w w' : World} {base : Nat} {e : TypeId} {size : Nat} {v : Value} {n : Nat} {xs : List Value} (h : w.ownsRow base e size v n xs) (g : w.grownBy w' none) : w'.ownsRow base e size v n xs :=
  h.kept g (by cases hv : v.ownBlock <;> simp)
theorem Try.info35' : (Try.prog.info? 35).map (fun i => (i.zero, i.size, i.bytes)) = some (some (.slice none 0 0), 1, 24) := by kernel_rfl
set_option maxRecDepth 100000 in
set_option maxHeartbeats 600000 in
theorem rlist_own (b : Nat) (v : Value) (l : List Int) (c : Bool) (w : World) (h : RefAt w b v l c) : Calls Try.prog 12 #[.pointer (some ⟨b, 0, none⟩)] w fun e w' =>
    ∃ u, e = .returned u ∧ Own w' 0 u l ∧ w.grownBy w' none := by
  have c0 : w.cell? ⟨b, 0, none⟩ = some (.bool true) := block_cell h.1 0
  have c2 : w.cell? ⟨b, 2, none⟩ = some v := block_cell h.1 2
  obtain ⟨i0, hi, hz0, hz1, hz2⟩ := info_parts Try.info3'
  have hl := h.2.2
  rcases own_shape h.2.1 with ⟨rfl, rfl⟩ | ⟨g, cap, rfl, hc⟩
  · have O := World.ownsRow_nil w 0 3 1
    clear h
    go_enter Try.func12, Try.ntmps12
    go_wp2_with (first | (go_at_call 26; refine (rnone_made _ _ c0).mono ?_; rintro e w' ⟨rfl, rfl⟩) | (at_builtin; refine wpList_append_own_none rfl (.tmp 7) (.tmp 11) 35 rfl 0 3 i0 1 Try.underlying35 hi (.slice none 0 0) 0 [] rfl O rfl ?_))
    go_ret
    exact ⟨_, rfl, Own.nil _ _, grown_refl _ _⟩
  · have O := World.ownsRow_nil w 0 3 1
    have HC : Hid (∀ j u, (ints l)[j]? = some u → w.cell? ((⟨g, 0, none⟩ : Addr).add j) = some u) := hc
    clear hc h
    go_enter Try.func12, Try.ntmps12
    go_wp2_with (first | (go_at_call 26; refine (rnone_made _ _ c0).mono ?_; rintro e w' ⟨rfl, rfl⟩) | (at_builtin; refine wpList_append_own _ rfl (.tmp 7) (.tmp 11) 35 rfl 0 3 i0 (.int .i64 0) 1 8 Try.underlying35 hi hz0 hz1 hz2 rfl (by decide) (.slice none 0 0) 0 [] rfl O ⟨g, 0, none⟩ l.length cap (ints l) rfl (by simp [length_ints]) HC.out (ints_one l) (by unfold maxLen; omega) (by omega) (by omega) ?_; intro v' w7 hown' hgrow7 hnil7; clear hnil7; have HO : Hid (w7.ownsRow 0 3 1 v' (0 + l.length) ([] ++ ints l)) := hown'; clear hown'))
    go_ret
    have O7 : Own w7 0 v' l := by have := HO.out; rwa [Nat.zero_add, List.nil_append] at this
    exact ⟨_, rfl, O7, hgrow7⟩

theorem hat_of {t : Value} {g n : Nat} (h : t.ownBlock = some g ∨ g = n + 1) : t.ownBlock = some g ∨ n ≤ g := by
  rcases h with h | h
  · exact Or.inl h
  · right; omega
/-- The list that is told: the last of the lists. -/
theorem act3_close {w W w2 X : World} {la ra g cap : Nat} {t v : Value} {l : List Int} {c : Bool} {T : List (Nat × Nat)} (L : LogAt w la l c) (R : RefAt w ra v l c) (D : Told w t T) (hd : ∀ x, x ∈ T → x.1 ∉ ob v) (hT : (T.map Prod.fst).Nodup)
    (KW : Kept [] w W) (g2 : W.grownBy w2 none) (B2 : w2.heap[W.heap.size]? = some (.cells (ints l).toArray 3 (0, 0))) (st : Kept (ob t) w2 X) (hat : t.ownBlock = some g ∨ w2.heap.size ≤ g)
    (oo : X.ownsRow 0 35 1 (.slice (some ⟨g, 0, none⟩) (T.length + 1) cap) (T.length + 1) (toldCells T ++ [.slice (some ⟨W.heap.size, 0, none⟩) l.length l.length])) :
    ActPost w la ra v t T X (.slice (some ⟨g, 0, none⟩) (T.length + 1) cap) v l c (T ++ [(W.heap.size, l.length)]) := by
  have K2 : Kept [] w w2 := KW.grow g2
  have KX : Kept (ob t) w X := (K2.weak).trans st (fun _ hx => Or.inl hx)
  obtain ⟨cl, hcl⟩ := L.tag
  have hWs := KW.size
  have nla : la ∉ ob t := fun h => by obtain ⟨cs, hcs⟩ := D.tag _ h; exact tag_ne hcs hcl (by decide) rfl
  have nra : ra ∉ ob t := fun h => by obtain ⟨cs, hcs⟩ := D.tag _ h; exact tag_ne hcs R.1 (by decide) rfl
  have nv : ∀ x, x ∈ ob v → x ∉ ob t := fun x hx h => by
    obtain ⟨cs, hcs⟩ := D.tag _ h
    obtain ⟨cs', hcs'⟩ := R.2.1.tag x hx
    exact tag_ne hcs hcs' (by decide) rfl
  have nT : ∀ x, x ∈ T → x.1 ∉ ob t := fun x hx h => by
    obtain ⟨cs, hcs⟩ := D.tag _ h
    obtain ⟨_, cs', hcs', _⟩ := D.2 x hx
    exact tag_ne hcs hcs' (by decide) rfl
  have ltT : ∀ x, x ∈ T → x.1 < w.heap.size := fun x hx => by obtain ⟨_, cs', hcs', _⟩ := D.2 x hx; exact block_lt hcs'
  have ltt : ∀ x, x ∈ ob t → x < w.heap.size := fun x hx => by obtain ⟨cs, hcs⟩ := D.tag x hx; exact block_lt hcs
  have ltv := ob_lt R.2.1
  have BX : X.heap[W.heap.size]? = some (.cells (ints l).toArray 3 (0, 0)) := st.keep B2 (fun h => by have := ltt _ h; omega)
  refine ⟨L.kept KX nla, R.kept KX nra nv, ⟨?_, fun x hx => ?_⟩, KX.mono (fun x hx => by simp [hx]), fun x hx => Or.inl hx, fun x hx => ?_, fun x hx hm => ?_, fun x hx => ?_, by simp, ?_⟩
  · have e : toldCells (T ++ [(W.heap.size, l.length)]) = toldCells T ++ [.slice (some ⟨W.heap.size, 0, none⟩) l.length l.length] := by simp [toldCells]
    rw [e, List.length_append, List.length_singleton]
    exact oo
  · rcases List.mem_append.1 hx with h | h
    · obtain ⟨h1, cs, h2, h3⟩ := D.2 x h
      exact ⟨h1, cs, KX.keep h2 (nT x h), h3⟩
    · have : x = (W.heap.size, l.length) := by simpa using h
      subst this
      exact ⟨L.len, _, BX, by simp [length_ints]⟩
  · rcases List.mem_append.1 hx with h | h
    · exact Or.inl h
    · have : x = (W.heap.size, l.length) := by simpa using h
      subst this
      exact Or.inr hWs
  · rcases List.mem_append.1 hx with h | h
    · exact hd x h hm
    · have : x = (W.heap.size, l.length) := by simpa using h
      subst this
      have := ltv _ hm
      simp at this
      omega
  · have hx' : x = g := by simpa [ob, Value.ownBlock] using hx
    subst hx'
    rcases hat with h | h
    · left; simp [ob, h]
    · right; have := K2.size; omega
  · rw [List.map_append, List.nodup_append]
    refine ⟨hT, by simp, fun a ha b hb => ?_⟩
    obtain ⟨x, hx, rfl⟩ := List.mem_map.1 ha
    have : b = W.heap.size := by simpa using hb
    have := ltT x hx
    omega

set_option maxRecDepth 100000 in
set_option maxHeartbeats 1000000 in
theorem act_3 : ActSaid 3 := by
  intro la ra on n t v l c T w L R D hd hT hlen
  obtain ⟨hne, hvla⟩ := pair_apart L R
  have hla := L.lt
  have hra := block_lt R.1
  have hv := ob_lt R.2.1
  obtain ⟨W, eW, KW, b0, b1, b2, b3, hs⟩ := boxes w (.pointer (some ⟨la, 0, none⟩)) (.pointer (some ⟨ra, 0, none⟩)) (.int .i64 3) (.int .i64 on) (.int .i64 n)
  have HW : Hid ((w.alloc (Obj.cells #[.pointer (some ⟨la, 0, none⟩), .pointer (some ⟨ra, 0, none⟩)] 28)).alloc (Obj.cells #[.int .i64 3, .int .i64 on, .int .i64 n] 33) = W) := eW
  clear eW
  have P := PairSt.start L R KW
  have L1 := P.log
  have R1 := P.ref
  have HVL : Hid (∀ x, x ∈ ob v → x ≠ la) := hvla
  have HD : Hid (∀ x, x ∈ T → x.1 ∉ ob v) := hd
  have n0 : Hid (w.heap.size ∉ [la]) := show w.heap.size ∉ [la] by simp; omega
  have n1 : Hid (w.heap.size + 1 ∉ [la]) := show w.heap.size + 1 ∉ [la] by simp; omega
  have m0 : Hid (w.heap.size ∉ ra :: ob v) := show w.heap.size ∉ ra :: ob v from fun h => by rcases List.mem_cons.1 h with h | h; omega; exact absurd (hv _ h) (by omega)
  have m1 : Hid (w.heap.size + 1 ∉ ra :: ob v) := show w.heap.size + 1 ∉ ra :: ob v from fun h => by rcases List.mem_cons.1 h with h | h; omega; exact absurd (hv _ h) (by omega)
  clear hv hvla hd
  go_enter Try.func9, Try.ntmps9
  go_wp2_with fail
  rw [HW.out]
  refine (list_log la l c W L1).mono ?_
  rintro e w2 ⟨rfl, B2, g2⟩
  have K2 : Kept [] w w2 := KW.grow g2
  have hWs := KW.size
  have BX : Hid (∀ X, Kept (ob t) w2 X → X.cell? ⟨w.heap.size, 1, none⟩ = some (.pointer (some ⟨ra, 0, none⟩))) := fun X hX => by
    refine hX.cell ((Kept.of_grown g2).cell b1 (by simp)) (fun h => ?_)
    obtain ⟨cs, hcs⟩ := D.tag _ h
    exact absurd (block_lt hcs) (by simp)
  have BR : Hid (∀ X, Kept (ob t) w2 X → RefAt X ra v l c) := fun X hX => by
    refine (R.kept K2 (by simp) (by simp)).kept hX (fun h => ?_) (fun x hx h => ?_)
    · obtain ⟨cs, hcs⟩ := D.tag _ h; exact tag_ne hcs R.1 (by decide) rfl
    · obtain ⟨cs, hcs⟩ := D.tag _ h
      obtain ⟨cs', hcs'⟩ := R.2.1.tag x hx
      exact tag_ne hcs hcs' (by decide) rfl
  have BI : Hid (∀ X, Kept (ob t) w2 X → IntsAt X (.slice (some ⟨W.heap.size, 0, none⟩) l.length l.length) l) := fun X hX => by
    refine IntsAt.whole (hX.keep B2 (fun h => ?_)) (small_maxLen (by have := L.len; omega))
    obtain ⟨cs, hcs⟩ := D.tag _ h
    exact absurd (block_lt hcs) (by omega)
  have BO : Hid (∀ X, Kept [] w2 X → X.ownsRow 0 35 1 t T.length (toldCells T)) := fun X hX => (D.kept (K2.trans hX (by simp)) (by simp) (by simp)).1
  have so : Kept [] w2 w2.drew := ⟨rfl, rfl, rfl, Nat.le_refl _, fun _ _ _ => rfl⟩
  obtain ⟨i0, hi, hz0, hz1, hz2⟩ := info_parts Try.info35'
  have hlt := L.len
  clear L1 R1 P n0 n1 m0 m1 b0 b1 b2 b3
  generalize hWz : W.heap.size = s at *
  go_wp2_with fail
  go_region_held3 (fun w' => w'.cell? ⟨w.heap.size, 1, none⟩ = some (.pointer (some ⟨ra, 0, none⟩))) (first | exact BX.out _ st4 | exact BX.out _ st3 | exact BX.out _ st | exact BX.out _ (so.alloc _).weak | exact BX.out _ so.weak) (first | (refine step_append_lies _ (by rfl) (.tmp 49) (.tmp 51) 30 (by rfl) 0 35 i0 (.slice none 0 0) 1 24 Try.underlying30 hi hz0 hz1 hz2 (by rfl) (by decide) t T.length (toldCells T) (by rfl) (BO.out _ (so.alloc _)) ⟨w2.heap.size, 0, none⟩ 1 1 [.slice (some ⟨s, 0, none⟩) l.length l.length] (by rfl) (by rfl) (cell_one_new _ _ _) (fun x hx => by simp at hx; subst hx; rfl) (by omega) (small_maxLen (by omega)) (by omega) (by omega) (w2.heap.size + 1) (by simp) ?_; intro g cap w5 oo g5 hat5 hlt5; have st := (so.alloc _).onto g5; clear hlt5 g5) | (go_at_call 12; refine (rlist_own ra v l c _ (BR.out _ st)).mono ?_; rintro e w3 ⟨u, rfl, U, g3⟩; have st3 := st.grow g3; have oo3 := own_later oo g3; clear oo g3) | (go_at_call 11; refine (same_ints _ _ l l _ (BI.out _ st3) U.ints).mono ?_; rintro e w4 ⟨rfl, n4, hw4⟩; have g4 := grown_of_drewN hw4; have st4 := st3.grow g4; have oo4 := own_later oo3 g4; clear hw4 oo3 g4 U))
  go_wp2
  go_ret2
  subst hWz
  exact ActEnd.mk (t' := .slice (some ⟨g, 0, none⟩) (T.length + 1) cap) (by simp) (act3_close L R D HD.out hT KW g2 B2 st4 (hat_of hat5) oo4)

end Go.Proofs.Ytldjfeodeodcmaa
