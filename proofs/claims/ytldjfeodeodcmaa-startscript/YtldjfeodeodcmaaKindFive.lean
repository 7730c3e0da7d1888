/-
  The method act of a pair, kind 5: many notes, one behind the other; and act whatever its kind.
-/
import Derived.Test.YtldjfeodeodcmaaKindThree
namespace Go.Proofs.Ytldjfeodeodcmaa
open Go.RowKit

theorem PairSt.base {w W w' : World} {la ra : Nat} {v v' : Value} {l' : List Int} {c' : Bool} (K : Kept [] w W) (P : PairSt W la ra v w' v' l' c') : PairSt w la ra v w' v' l' c' :=
  ⟨P.log, P.ref, (K.weak).trans P.kept (fun _ hx => Or.inl hx), fun x hx => by
    rcases P.notes x hx with h | h
    · exact Or.inl h
    · exact Or.inr (Nat.le_trans K.size h)⟩
theorem PairSt.apart {W w' : World} {la ra : Nat} {v v' : Value} {l' : List Int} {c' : Bool} (P : PairSt W la ra v w' v' l' c') (X : World) (k : Kept [la] w' X) : RefAt X ra v' l' c' := by
  obtain ⟨h1, h2⟩ := pair_apart P.log P.ref
  exact P.ref.kept k (by simpa using h1.symm) (fun x hx => by simpa using h2 x hx)

set_option maxRecDepth 100000 in
set_option maxHeartbeats 1000000 in
theorem act_5 : ActSaid 5 := by
  intro la ra on n t v l c T w L R D hd hT _
  obtain ⟨hne, hvla⟩ := pair_apart L R
  have hla := L.lt
  have hra := block_lt R.1
  have hv := ob_lt R.2.1
  obtain ⟨W, eW, KW, b0, b1, b2, b3, hs⟩ := boxes w (.pointer (some ⟨la, 0, none⟩)) (.pointer (some ⟨ra, 0, none⟩)) (.int .i64 5) (.int .i64 on) (.int .i64 n)
  have HW : Hid ((w.alloc (Obj.cells #[.pointer (some ⟨la, 0, none⟩), .pointer (some ⟨ra, 0, none⟩)] 28)).alloc (Obj.cells #[.int .i64 5, .int .i64 on, .int .i64 n] 33) = W) := eW
  clear eW
  have L1 := L.kept KW (by simp)
  have R1 := R.kept KW (by simp) (by simp)
  have P := PairSt.start L1 R1 (Kept.refl [] W)
  have HD : Hid (∀ x, x ∈ T → x.1 ∉ ob v) := hd
  have BX : Hid (∀ X, Kept (la :: ra :: ob v) W X → X.cell? ⟨w.heap.size, 0, none⟩ = some (.pointer (some ⟨la, 0, none⟩)) ∧ X.cell? ⟨w.heap.size, 1, none⟩ = some (.pointer (some ⟨ra, 0, none⟩)) ∧ X.cell? ⟨w.heap.size + 1, 2, none⟩ = some (.int .i64 n)) := fun X hX =>
    have e : ∀ y, w.heap.size ≤ y → y ∉ la :: ra :: ob v := fun y hy h => by
      rcases List.mem_cons.1 h with h | h
      · omega
      · rcases List.mem_cons.1 h with h | h
        · omega
        · have := hv _ h; omega
    ⟨hX.cell b0 (e _ (Nat.le_refl _)), hX.cell b1 (e _ (Nat.le_refl _)), hX.cell b3 (e _ (Nat.le_succ _))⟩
  clear hv hvla hd
  go_enter Try.func9, Try.ntmps9
  go_wp2_with fail
  rw [HW.out]
  clear hs b0 b1 b2 b3 L1 R1
  go_loopw [9] (fun i wr => ∃ (k : Nat) (v' : Value) (l' : List Int), k ≤ 300 ∧ i = .int .i64 k ∧ PairSt W la ra v wr v' l' c) (fun i _ => 300 - (intOf i).toNat)
  case atStart => exact ⟨0, v, l, by omega, rfl, P⟩
  case round =>
    clear P
    obtain ⟨k, v', l', hk, rfl, P⟩ := hrel
    obtain ⟨b0, b1, b3⟩ := BX.out wr P.kept
    by_cases hn : (k : Int) < n
    · by_cases h3 : (k : Int) < 300
      · go_wp2_with fail
        go_region_held3 (fun w' => w'.cell? ⟨w.heap.size, 0, none⟩ = some (.pointer (some ⟨la, 0, none⟩)) ∧ w'.cell? ⟨w.heap.size, 1, none⟩ = some (.pointer (some ⟨ra, 0, none⟩))) (first | exact ⟨(BX.out _ P3.kept).1, (BX.out _ P3.kept).2.1⟩ | exact ⟨(BX.out _ q2).1, (BX.out _ q2).2.1⟩ | exact ⟨b0, b1⟩) (first | (go_at_call 18; refine (note_all la l' c k _ (by exact P.log)).mono ?_; rintro e w2 ⟨rfl, L2, k2'⟩; have k2 := k2'.undrew; have q2 := P.kept.trans k2 (fun x hx => Or.inl (by simp at hx; simp [hx])); clear k2') | (go_at_call 21; refine (rnote_all ra v' l' c k _ (P.apart _ k2)).mono ?_; rintro e w3 ⟨rfl, v3, R3, k3, a3⟩; have P3 := P.step k2 L2 k3 R3 a3))
        clear b0 b1 b3 k2 L2 k3 R3 a3 q2 P
        go_wp2_with fail
        go_roundw
        case rel => exact ⟨k + 1, v3, _, by omega, by go_num, P3⟩
        case measure => simp [intOf]; omega
      · go_wp2
        go_ret2
        exact ActEnd.mk (t' := t) rfl (ActPost.of_pair (P.base KW) L R D HD.out hT)
    · go_wp2
      go_ret2
      exact ActEnd.mk (t' := t) rfl (ActPost.of_pair (P.base KW) L R D HD.out hT)

theorem act_any (k : Int) : ActSaid k := by
  by_cases h0 : k = 0
  · subst h0; exact act_0
  by_cases h1 : k = 1
  · subst h1; exact act_1
  by_cases h2 : k = 2
  · subst h2; exact act_2
  by_cases h3 : k = 3
  · subst h3; exact act_3
  by_cases h4 : k = 4
  · subst h4; exact act_4
  by_cases h5 : k = 5
  · subst h5; exact act_5
  exact act_else k (by simpa using h0) (by simpa using h1) (by simpa using h2) (by simpa using h3) (by simpa using h4) (by simpa using h5)

end Go.Proofs.Ytldjfeodeodcmaa
