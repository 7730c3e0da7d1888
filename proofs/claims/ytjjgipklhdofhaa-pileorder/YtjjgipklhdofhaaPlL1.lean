/-
  PileShuffles, walked: Next and Shuffle are the document's, of every list and state; what was handed in stays; the answers lie in memory of their own. (The program's Shuffle: pshuf_any, as rshuf_any.)
-/
import Derived.Test.YtjjgipklhdofhaaPlQ
import Derived.Test.YtjjgipklhdofhaaPlO
namespace Go.Proofs.Ytjjgipklhdofhaa
open Go.RowKit

theorem lstI3 {a b c : Lst} {w : World} {g : Nat} (Z : w.heap[g]? = some (.cells #[a.v, b.v, c.v] 22 (0, 0))) (A : a.okI w) (B : b.okI w) (C : c.okI w) (hab : ∀ x y, a.a = some x → b.a = some y → x < y) (hac : ∀ x y, a.a = some x → c.a = some y → x < y) (hbc : ∀ x y, b.a = some x → c.a = some y → x < y) : Calls Try.prog 15 #[.slice (some ⟨g, 0, none⟩) 3 3] w fun e w' => e = .returned (.bool true) ∧ Kpt (blocks [a, b, c]) w w' :=
  apartI_any g 3 [a, b, c] w (Nat.zero_lt_succ _) (by simp)
    (fun j x hx => by
      rcases j with _ | _ | _ | j
      · obtain rfl : a = x := by simpa using hx
        exact block_cell Z 0
      · obtain rfl : b = x := by simpa using hx
        exact block_cell Z 1
      · obtain rfl : c = x := by simpa using hx
        exact block_cell Z 2
      · simp at hx)
    (fun x hx => by
      simp only [List.mem_cons, List.not_mem_nil, or_false] at hx
      rcases hx with rfl | rfl | rfl
      · exact A
      · exact B
      · exact C)
    (diff_rising (by
      simp only [List.pairwise_cons, List.mem_cons, List.not_mem_nil, or_false, List.Pairwise.nil, and_true]
      exact ⟨fun y hy => by
        rcases hy with rfl | rfl
        · exact hab
        · exact hac, fun y hy => by subst hy; exact hbc, fun y hy => hy.elim⟩))
/-- The lent list, as far as it was handed in. -/
theorem lent_in {w : World} {g n : Nat} {l : List Int} (h : w.ownsRow g 3 1 (.slice (some ⟨g, 0, none⟩) (n + 2) (n + 2)) (n + 2) (ints (l ++ [-77, -77]))) (hn : l.length = n) : IntsA w (.slice (some ⟨g, 0, none⟩) n (n + 2)) l := by
  subst hn
  refine Or.inr ⟨_, _, rfl, fun j u hu => ?_⟩
  have hj : j < l.length := by have := (List.getElem?_eq_some_iff.1 hu).1; rwa [length_ints] at this
  rw [add_plain, Nat.zero_add, World.ownsRow.cellAt h j (by omega), ints_app, List.getElem?_append_left (by rw [length_ints]; exact hj)]
  exact hu
theorem same_own {w : World} {a b : Value} {p q n : Nat} {l : List Int} (ha : w.ownsRow p 3 1 a n (ints l)) (hb : w.ownsRow q 3 1 b n (ints l)) (hl : l.length = n) : Calls Try.prog 14 #[a, b] w fun e w' => e = .returned (.bool true) ∧ w.grownBy w' none := by
  subst hl
  refine (L.same_ints a b l l w (L.Own.ints ha) (L.Own.ints hb)).mono ?_
  rintro e w' ⟨rfl, n, rfl⟩
  exact ⟨by rw [decide_eq_true rfl], grown_drewN _ _ _⟩
theorem IntsA.form {w : World} {v : Value} {l : List Int} (h : IntsA w v l) : ∃ a c, v = .slice a l.length c := by
  rcases h with ⟨rfl, rfl⟩ | ⟨ad, cap, rfl, _⟩
  · exact ⟨_, _, rfl⟩
  · exact ⟨_, _, rfl⟩
theorem own_form {w : World} {base n : Nat} {v : Value} {xs : List Value} (h : w.ownsRow base 3 1 v n xs) : ∃ a c, v = .slice a n c := by
  rcases h.2 with ⟨e, h0⟩ | ⟨g, cap, cur, e, _⟩
  · exact ⟨_, _, by rw [e, h0]⟩
  · exact ⟨_, _, e⟩
theorem own_keepN {w w' : World} {base n : Nat} {v : Value} {xs : List Value} (h : w.ownsRow base 3 1 v n xs) (g : w.grownBy w' none) : w'.ownsRow base 3 1 v n xs := World.ownsRow.kept h g (Classical.em (v.ownBlock = none))
theorem own_blt {w : World} {base g n cap : Nat} {xs : List Value} (h : w.ownsRow base 3 1 (.slice (some ⟨g, 0, none⟩) n cap) n xs) : g < w.heap.size := by
  rcases h.2 with ⟨h', _⟩ | ⟨g', cap', cur, h', hb, hh, _⟩
  · simp at h'
  · simp at h'
    rw [h'.1]
    exact block_lt hh
theorem L_keep {w w' : World} {base n f : Nat} {v : Value} {xs : List Value} (h : w.ownsRow base 3 1 v n xs) (g : w.grownBy w' (some f)) (hf : f < base) : w'.ownsRow base 3 1 v n xs := World.ownsRow.kept h g (by
  rcases h.2 with ⟨e, _⟩ | ⟨g', cap', cur, e, hb, _⟩
  · exact Or.inl (by rw [e]; rfl)
  · refine Or.inr ?_
    rw [e]
    intro h9
    simp [Value.ownBlock] at h9
    omega)
theorem own_app {w : World} {base : Nat} {v : Value} {l : List Int} (h : w.ownsRow base 3 1 v (l.length + 2) (ints (l ++ [-77, -77]))) : L.Own w base v (l ++ [-77, -77]) := by
  unfold L.Own
  rw [List.length_append]
  exact h
theorem lst_of {x : Lst} {g n c : Nat} (h : Value.slice (some ⟨g, 0, none⟩) n c = x.v) : x.a = some g := by
  obtain ⟨a, m, d⟩ := x
  unfold Lst.v at h
  injection h with h1
  cases a with
  | none => simp at h1
  | some y => simp at h1; rw [h1]
theorem shuffled_len (l : List Int) (s : Int) : (shuffled l s).1.length = l.length := shuf_len _ _ _ _
set_option maxRecDepth 100000 in
set_option maxHeartbeats 4000000 in
theorem shuffles15 (v : Value) (l : List Int) (s : Int) (w : World) (h : IntsA w v l) (hb : (l.length + 2) * 8 ≤ 140737488355328) (hs : isU s) : Calls Try.prog 3 #[v, .int .u64 s] w fun e w' => e = .returned (.bool true) ∧ w.grownBy w' none := by
  have HI : Hid (IntsA w v l) := h
  have Hb : Hid ((l.length + 2) * 8 ≤ 140737488355328) := hb
  have Hs : Hid (isU s) := hs
  have hn : l.length ≤ 17592186044416 := by omega
  obtain ⟨va, vc, rfl⟩ := h.form
  clear h hb hs
  obtain ⟨n, hnl⟩ : ∃ n, n = l.length := ⟨_, rfl⟩
  have Hn : Hid (l.length = n) := hnl.symm
  rw [← hnl] at hn ⊢
  have hn' : (n : Int) ≤ 17592186044416 := by omega
  clear hnl
  go_enter Try.func3, Try.ntmps3
  go_wp2_with fail
  refine (pnext_any s Hs.out w).mono ?_
  rintro e w1 ⟨rfl, rfl⟩
  go_wp2_with fail
  refine (rnext_any s Hs.out w1).mono ?_
  rintro e w2 ⟨rfl, rfl⟩
  have CL := lentI_any _ l w2 HI.out Hb.out
  rw [Hn.out] at CL
  obtain ⟨y1, hy1⟩ : ∃ y, y = nx s := ⟨_, rfl⟩
  obtain ⟨y2, hy2⟩ : ∃ y, y = stp s := ⟨_, rfl⟩
  rw [← hy1, ← hy2]
  clear hy1 hy2
  go_wp2_with fail
  refine CL.mono ?_
  rintro e U1 ⟨rfl, O1, g1⟩
  have HG1 : Hid (w2.grownBy U1 none) := g1
  obtain ⟨f, hf⟩ : ∃ f, f = w2.heap.size := ⟨_, rfl⟩
  rw [← hf] at O1 ⊢
  have Hf : Hid (f = w2.heap.size) := hf
  have HO1 : Hid (U1.ownsRow f 3 1 (.slice (some ⟨f, 0, none⟩) (n + 2) (n + 2)) (n + 2) (ints (l ++ [-77, -77]))) := O1
  have C1 := pshuf_any _ l s U1 (lent_in O1 Hn.out) Hb.out Hs.out
  obtain ⟨z, hz⟩ : ∃ z, z = shuffled l s := ⟨_, rfl⟩
  rw [← hz, Hn.out] at C1
  have Hz : Hid (z = shuffled l s) := hz
  clear CL g1 hf O1 hz
  go_wp2_with fail
  refine C1.mono ?_
  rintro e U2 ⟨a, rfl, O2, g2⟩
  obtain ⟨xa, Ea, _, Ka, Ba⟩ := own_lstI O2
  obtain ⟨aa, ac, rfl⟩ := own_form O2
  have HXa : Hid (Value.slice aa n ac = xa.v) := Ea
  have HKa : Hid (xa.okI U2 ∧ ∀ g, xa.a = some g → U1.heap.size ≤ g ∧ g < U2.heap.size) := ⟨Ka, Ba⟩
  have HO2 : Hid (U2.ownsRow U1.heap.size 3 1 (.slice aa n ac) n (ints z.1)) := O2
  have HF2 : Hid (U2.ownsRow f 3 1 (.slice (some ⟨f, 0, none⟩) (n + 2) (n + 2)) (n + 2) (ints (l ++ [-77, -77]))) := own_keepN HO1.out g2
  have HG2 : Hid (w2.grownBy U2 none) := grown_trans HG1.out g2
  have HL2 : Hid (f < U1.heap.size) := own_blt HO1.out
  have HM2 : Hid (U1.heap.size ≤ U2.heap.size) := g2.size
  have C2 := pshuf_any _ l s U2 (lent_in HF2.out Hn.out) Hb.out Hs.out
  rw [← Hz.out, Hn.out] at C2
  clear C1 O2 g2 HO1 Ea Ka Ba
  go_wp2_with fail
  refine C2.mono ?_
  rintro e U3 ⟨b, rfl, O3, g3⟩
  obtain ⟨xb, Eb, _, Kb, Bb⟩ := own_lstI O3
  obtain ⟨ba, bc, rfl⟩ := own_form O3
  have HXb : Hid (Value.slice ba n bc = xb.v) := Eb
  have HKb : Hid (xb.okI U3 ∧ ∀ g, xb.a = some g → U2.heap.size ≤ g ∧ g < U3.heap.size) := ⟨Kb, Bb⟩
  have HO3 : Hid (U3.ownsRow U2.heap.size 3 1 (.slice ba n bc) n (ints z.1)) := O3
  have HA3 : Hid (U3.ownsRow U1.heap.size 3 1 (.slice aa n ac) n (ints z.1)) := own_keepN HO2.out g3
  have HF3 : Hid (U3.ownsRow f 3 1 (.slice (some ⟨f, 0, none⟩) (n + 2) (n + 2)) (n + 2) (ints (l ++ [-77, -77]))) := own_keepN HF2.out g3
  have HG3 : Hid (w2.grownBy U3 none) := grown_trans HG2.out g3
  have HM3 : Hid (U1.heap.size ≤ U2.heap.size ∧ U2.heap.size ≤ U3.heap.size ∧ xa.okI U3) := ⟨HM2.out, g3.size, okI_keep HKa.out.1 g3 (by simp)⟩
  have C3 := rshuf_any _ l s U3 (HI.out.keep HG3.out) Hb.out Hs.out
  rw [← Hz.out, Hn.out] at C3
  clear C2 O3 g3 HO2 HF2 Eb Kb Bb
  go_wp2_with fail
  refine C3.mono ?_
  rintro e U4 ⟨c, rfl, O4, g4⟩
  obtain ⟨ca, cc, rfl⟩ := own_form O4
  have HA4 : Hid (U4.ownsRow U1.heap.size 3 1 (.slice aa n ac) n (ints z.1)) := own_keepN HA3.out g4
  have HB4 : Hid (U4.ownsRow U2.heap.size 3 1 (.slice ba n bc) n (ints z.1)) := own_keepN HO3.out g4
  have HC4 : Hid (U4.ownsRow U3.heap.size 3 1 (.slice ca n cc) n (ints z.1)) := O4
  have HF4 : Hid (U4.ownsRow f 3 1 (.slice (some ⟨f, 0, none⟩) (n + 2) (n + 2)) (n + 2) (ints (l ++ [-77, -77]))) := own_keepN HF3.out g4
  have HG4 : Hid (w2.grownBy U4 none) := grown_trans HG3.out g4
  have HK4 : Hid (xa.okI U4 ∧ xb.okI U4) := ⟨okI_keep HM3.out.2.2 g4 (by simp), okI_keep HKb.out.1 g4 (by simp)⟩
  have CK := keptI_any (.slice (some ⟨f, 0, none⟩) (n + 2) (n + 2)) _ f l U4 (by have := HF4.out; rw [← Hn.out] at this ⊢; exact own_app this) (HI.out.keep HG4.out) Hb.out
  rw [Hn.out] at CK
  clear C3 O4 g4 HA3 HO3 HF3 HG3
  go_wp2_with fail
  refine CK.mono ?_
  rintro e U5 ⟨rfl, g5⟩
  have HA5 : Hid (U5.ownsRow U1.heap.size 3 1 (.slice aa n ac) n (ints z.1)) := own_keepN HA4.out g5
  have HB5 : Hid (U5.ownsRow U2.heap.size 3 1 (.slice ba n bc) n (ints z.1)) := own_keepN HB4.out g5
  have HC5 : Hid (U5.ownsRow U3.heap.size 3 1 (.slice ca n cc) n (ints z.1)) := own_keepN HC4.out g5
  have HK5 : Hid (xa.okI U5 ∧ xb.okI U5) := ⟨okI_keep HK4.out.1 g5 (by simp), okI_keep HK4.out.2 g5 (by simp)⟩
  have HG5 : Hid (w2.grownBy U5 none) := grown_trans HG4.out g5
  have CO := overI_any f f (n + 2) (n + 2) (l ++ [-77, -77]) U5 (own_keepN HF4.out g5) (by simp [Hn.out]) (by omega)
  clear CK g5 HA4 HB4 HC4 HF4 HG4 HK4
  go_wp2_with fail
  refine CO.mono ?_
  rintro e U6 ⟨rfl, ⟨ys, hys, O6⟩, g6⟩
  obtain ⟨xf, Ef, _, Kf, Bf⟩ := own_lstI O6
  have HXf : Hid (Value.slice (some ⟨f, 0, none⟩) (n + 2) (n + 2) = xf.v ∧ xf.okI U6 ∧ xf.a = some f) := ⟨Ef, Kf, lst_of Ef⟩
  have hfa : ∀ g, U1.heap.size ≤ g → some g ≠ some f := fun g hg e => by cases e; have := HL2.out; omega
  have HA6 : Hid (U6.ownsRow U1.heap.size 3 1 (.slice aa n ac) n (ints z.1)) := L_keep HA5.out g6 HL2.out
  have HB6 : Hid (U6.ownsRow U2.heap.size 3 1 (.slice ba n bc) n (ints z.1)) := L_keep HB5.out g6 (Nat.lt_of_lt_of_le HL2.out HM3.out.1)
  have HC6 : Hid (U6.ownsRow U3.heap.size 3 1 (.slice ca n cc) n (ints z.1)) := L_keep HC5.out g6 (Nat.lt_of_lt_of_le HL2.out (Nat.le_trans HM3.out.1 HM3.out.2.1))
  have HK6 : Hid (xa.okI U6 ∧ xb.okI U6) := ⟨okI_keep HK5.out.1 g6 (fun g hg => hfa g (HKa.out.2 g hg).1), okI_keep HK5.out.2 g6 (fun g hg => hfa g (Nat.le_trans HM3.out.1 (HKb.out.2 g hg).1))⟩
  have HG6 : Hid (w2.grownBy U6 none) := grown_own HG5.out g6 (fun x e => by cases e; exact Nat.le_of_eq Hf.out.symm)
  have hzl : z.1.length = n := by rw [Hz.out, shuffled_len]; exact Hn.out
  have C7 := same_own HA6.out HC6.out hzl
  have Hzl : Hid (z.1.length = n) := hzl
  clear CO g6 HA5 HB5 HC5 HG5 HK5 hfa Ef Kf Bf O6 hys hzl
  go_wp2_with fail
  refine C7.mono ?_
  rintro e U7 ⟨rfl, g7⟩
  have C8 := same_own (own_keepN HB6.out g7) (own_keepN HC6.out g7) Hzl.out
  have HK7 : Hid (xa.okI U7 ∧ xb.okI U7 ∧ xf.okI U7) := ⟨okI_keep HK6.out.1 g7 (by simp), okI_keep HK6.out.2 g7 (by simp), okI_keep HXf.out.2.1 g7 (by simp)⟩
  have HG7 : Hid (w2.grownBy U7 none) := grown_trans HG6.out g7
  clear C7 g7 HA6 HB6 HC6 HK6 HG6
  go_wp2_with fail
  refine C8.mono ?_
  rintro e U8 ⟨rfl, g8⟩
  have HK8 : Hid (xa.okI U8 ∧ xb.okI U8 ∧ xf.okI U8) := ⟨okI_keep HK7.out.1 g8 (by simp), okI_keep HK7.out.2.1 g8 (by simp), okI_keep HK7.out.2.2 g8 (by simp)⟩
  have HG8 : Hid (w2.grownBy U8 none) := grown_trans HG7.out g8
  obtain ⟨Z, hZ⟩ : ∃ Z, Z = U8.alloc (.cells #[.slice (some ⟨f, 0, none⟩) (n + 2) (n + 2), .slice aa n ac, .slice ba n bc] 22) := ⟨_, rfl⟩
  have gz : U8.grownBy Z none := by rw [hZ]; exact World.grownBy_alloc _ _ none
  have HGZ : Hid (w2.grownBy Z none) := grown_trans HG8.out gz
  have CA := lstI3 (g := U8.heap.size) (a := xf) (b := xa) (c := xb) (w := Z) (by rw [hZ, HXf.out.1, HXa.out, HXb.out]; exact alloc_at _ _ _) (okI_keep HK8.out.2.2 gz (by simp)) (okI_keep HK8.out.1 gz (by simp)) (okI_keep HK8.out.2.1 gz (by simp))
    (fun x y hx hy => by rw [HXf.out.2.2] at hx; cases hx; exact Nat.lt_of_lt_of_le HL2.out (HKa.out.2 y hy).1)
    (fun x y hx hy => by rw [HXf.out.2.2] at hx; cases hx; exact Nat.lt_of_lt_of_le HL2.out (Nat.le_trans HM3.out.1 (HKb.out.2 y hy).1))
    (fun x y hx hy => Nat.lt_of_lt_of_le (HKa.out.2 x hx).2 (HKb.out.2 y hy).1)
  have HZ : Hid (Z = U8.alloc (.cells #[.slice (some ⟨f, 0, none⟩) (n + 2) (n + 2), .slice aa n ac, .slice ba n bc] 22)) := hZ
  clear C8 g8 HK7 HG7 HK8 HG8 hZ gz
  go_wp2_with fail
  rw [← HZ.out]
  refine CA.mono ?_
  rintro e Z1 ⟨rfl, k1⟩
  have HF : Hid (w2.grownBy Z1 none) := Kpt.new HGZ.out k1 (fun x hx => by
    have h1 := HG1.out.size
    have h2 := HM3.out
    have h3 := Hf.out
    obtain ⟨y, hy, hyx⟩ := List.mem_filterMap.1 hx
    simp only [List.mem_cons, List.not_mem_nil, or_false] at hy
    rcases hy with rfl | rfl | rfl
    · rw [HXf.out.2.2] at hyx; cases hyx; omega
    · have := HKa.out.2 x hyx; omega
    · have := HKb.out.2 x hyx; omega)
  clear k1 CA HZ
  go_wp2
  go_ret
  exact ⟨rfl, HF.out⟩
end Go.Proofs.Ytjjgipklhdofhaa
