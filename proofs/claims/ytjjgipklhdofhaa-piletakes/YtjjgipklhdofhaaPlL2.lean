/-
  PileTakes, walked: Draw, Under, Without, Cut and Deal are the document's, of every list and every four numbers; what was handed in stays; the answers lie in memory of their own.
-/
import Derived.Test.YtjjgipklhdofhaaPlAp
import Derived.Deep.CutBlock
namespace Go.Proofs.Ytjjgipklhdofhaa
open Go.RowKit

theorem takes_apart {F a b c d e g : Value} {vs : List Value} {f s0 s1 s2 s3 m4 s4 mg s5 : Nat} (hF : ∀ x, F.ownBlock = some x → x = f) (Ba : ∀ x, a.ownBlock = some x → s0 ≤ x ∧ x < s1) (Bb : ∀ x, b.ownBlock = some x → s1 ≤ x ∧ x < s2) (Bc : ∀ x, c.ownBlock = some x → s2 ≤ x ∧ x < s3) (Bd : ∀ x, d.ownBlock = some x → s3 ≤ x ∧ x < m4) (Be : ∀ x, e.ownBlock = some x → m4 ≤ x ∧ x < s4) (Bg : ∀ x, g.ownBlock = some x → mg ≤ x ∧ x < s5) (Bv : ∀ v ∈ vs, ∀ x, v.ownBlock = some x → s4 ≤ x ∧ x < mg) (h0 : f < s0) (h1 : s0 ≤ s1) (h2 : s1 ≤ s2) (h3 : s2 ≤ s3) (h4 : s3 ≤ m4) (h5 : m4 ≤ s4) (h6 : s4 ≤ mg) (Pv : vs.Pairwise fun x y => ∀ a, x.ownBlock = some a → y.ownBlock ≠ some a) : ([F, a, b, c, d, e, g] ++ vs).Pairwise fun x y => ∀ a, x.ownBlock = some a → y.ownBlock ≠ some a := by
  rw [List.pairwise_append]
  refine ⟨pair_in [(f, f + 1), (s0, s1), (s1, s2), (s2, s3), (s3, m4), (m4, s4), (mg, s5)] rfl (fun i v s hv hs x hx => ?_) ?_, Pv, fun x hx y hy z hz hz' => ?_⟩
  · match i with
    | 0 => cases hv; cases hs; have := hF x hx; omega
    | 1 => cases hv; cases hs; exact Ba x hx
    | 2 => cases hv; cases hs; exact Bb x hx
    | 3 => cases hv; cases hs; exact Bc x hx
    | 4 => cases hv; cases hs; exact Bd x hx
    | 5 => cases hv; cases hs; exact Be x hx
    | 6 => cases hv; cases hs; exact Bg x hx
    | i + 7 => simp at hv
  · simp only [List.pairwise_cons, List.mem_cons, List.not_mem_nil, or_false, forall_eq_or_imp, forall_eq, List.Pairwise.nil, and_true, false_implies, implies_true]
    omega
  · have h9 := Bv y hy z hz'
    simp only [List.mem_cons, List.not_mem_nil, or_false] at hx
    rcases hx with rfl | rfl | rfl | rfl | rfl | rfl | rfl
    · have := hF z hz; omega
    · have := Ba z hz; omega
    · have := Bb z hz; omega
    · have := Bc z hz; omega
    · have := Bd z hz; omega
    · have := Be z hz; omega
    · have := Bg z hz; omega
theorem takes_low {F a b c d e g : Value} {vs : List Value} {f s0 s1 s2 s3 m4 s4 mg s5 z : Nat} (hF : ∀ x, F.ownBlock = some x → x = f) (Ba : ∀ x, a.ownBlock = some x → s0 ≤ x ∧ x < s1) (Bb : ∀ x, b.ownBlock = some x → s1 ≤ x ∧ x < s2) (Bc : ∀ x, c.ownBlock = some x → s2 ≤ x ∧ x < s3) (Bd : ∀ x, d.ownBlock = some x → s3 ≤ x ∧ x < m4) (Be : ∀ x, e.ownBlock = some x → m4 ≤ x ∧ x < s4) (Bg : ∀ x, g.ownBlock = some x → mg ≤ x ∧ x < s5) (Bv : ∀ v ∈ vs, ∀ x, v.ownBlock = some x → s4 ≤ x ∧ x < mg) (h0 : f < s0) (h1 : s0 ≤ s1) (h2 : s1 ≤ s2) (h3 : s2 ≤ s3) (h4 : s3 ≤ m4) (h5 : m4 ≤ s4) (h6 : s4 ≤ mg) (hz : z ≤ f) : ∀ x ∈ ([F, a, b, c, d, e, g] ++ vs).filterMap Value.ownBlock, z ≤ x := fun x hx => by
  obtain ⟨y, hy, hyx⟩ := List.mem_filterMap.1 hx
  rcases List.mem_append.1 hy with hy | hy
  · simp only [List.mem_cons, List.not_mem_nil, or_false] at hy
    rcases hy with rfl | rfl | rfl | rfl | rfl | rfl | rfl
    · have := hF x hyx; omega
    · have := Ba x hyx; omega
    · have := Bb x hyx; omega
    · have := Bc x hyx; omega
    · have := Bd x hyx; omega
    · have := Be x hyx; omega
    · have := Bg x hyx; omega
  · have := Bv y hy x hyx; omega
theorem take_snoc {vs : List Value} {i : Nat} {v : Value} (h : vs[i]? = some v) : vs.take i ++ [v] = vs.take (i + 1) := by
  rw [List.take_add_one, h]
  rfl
theorem row_plain {w : World} {base n i : Nat} {a : Option Addr} {c : Nat} {xs : List Value} (h : w.ownsRow base 22 1 (.slice a n c) n xs) (hi : i < n) : ∃ b, a = some ⟨b, 0, none⟩ := by
  rcases h.2 with ⟨e, h0⟩ | ⟨g, cap, cur, e, _⟩
  · omega
  · cases e
    exact ⟨g, rfl⟩
theorem KXrow {U1 w7 U11 : World} {q n : Nat} {v : Value} {xs : List Value} {o : Obj} (hg : (U1.alloc o).grownBy w7 v.ownBlock) (ho : U1.ownsRow q 22 1 v n xs) (g1 : U11.grownBy U1 none) (hq : q = U11.heap.size) : U11.grownBy w7 none :=
  grown_own (grown_push g1 _) hg (fun x hx => by rw [← hq]; exact (World.ownsRow.lt ho x hx).1)
theorem deal_few (l : List Int) (h e : Int) : (dealP l h e).1.length ≤ 64 := by
  unfold dealP
  split
  · rename_i h9
    simp only [dealAll_len]
    omega
  · simp
set_option maxRecDepth 100000 in
set_option maxHeartbeats 8000000 in
theorem takes15 (v : Value) (l : List Int) (x n9 h9 e9 : Int) (w : World) (h : IntsB w v l) (hb : (l.length + 2) * 8 ≤ 140737488355328) : Calls Try.prog 4 #[v, .int .i64 x, .int .i64 n9, .int .i64 h9, .int .i64 e9] w fun e w' => e = .returned (.bool true) ∧ w.grownBy w' none := by
  obtain ⟨i1, hi1, hy0, hy1, hy2⟩ := info_parts Try.info22
  have HI : Hid (IntsB w v l) := h
  have Hbz : Hid ((l.length + 2) * 8 ≤ 140737488355328) := hb
  have hn : l.length ≤ 17592186044416 := by omega
  obtain ⟨va, vc, rfl⟩ := h.form
  clear h hb
  obtain ⟨n, hnl⟩ : ∃ n, n = l.length := ⟨_, rfl⟩
  have Hn : Hid (l.length = n) := hnl.symm
  rw [← hnl] at hn HI ⊢
  have hn' : (n : Int) ≤ 17592186044416 := by omega
  clear hnl
  obtain ⟨x0, hx0⟩ : ∃ x0, x0 = l.headD 0 := ⟨_, rfl⟩
  obtain ⟨b1, hb1⟩ : ∃ b1, b1 = decide (l ≠ []) := ⟨_, rfl⟩
  obtain ⟨la, hla⟩ : ∃ la, la = l.tail := ⟨_, rfl⟩
  obtain ⟨b2, hb2⟩ : ∃ b2, b2 = decide (x ∈ l) := ⟨_, rfl⟩
  obtain ⟨lc, hlc⟩ : ∃ lc, lc = (if x ∈ l then l.erase x else []) := ⟨_, rfl⟩
  obtain ⟨zc, hzc⟩ : ∃ zc, zc = cutP l n9 := ⟨_, rfl⟩
  obtain ⟨ld, le, z1⟩ := zc
  obtain ⟨zd, hzd⟩ : ∃ zd, zd = dealP l h9 e9 := ⟨_, rfl⟩
  obtain ⟨hs, lg, z2⟩ := zd
  have D1 : Hid (∀ V W, IntsB W V l → Calls Try.prog 16 #[V] W fun e w' => ∃ u, e = .returned (.tuple #[.int .i64 x0, u, .bool b1]) ∧ w'.ownsRow W.heap.size 3 1 u la.length (ints la) ∧ W.grownBy w' none) := fun V W hV => by rw [hx0, hb1, hla]; exact pdraw_any V l W hV Hbz.out
  have D6 : Hid (∀ V W, IntsB W V l → Calls Try.prog 21 #[V] W fun e w' => ∃ u, e = .returned (.tuple #[.int .i64 x0, u, .bool b1]) ∧ w'.ownsRow W.heap.size 3 1 u la.length (ints la) ∧ W.grownBy w' none) := fun V W hV => by rw [hx0, hb1, hla]; exact rdraw_any V l W hV Hbz.out
  have D2 : Hid (∀ V W, IntsB W V l → Calls Try.prog 17 #[V, .int .i64 x] W fun e w' => ∃ u, e = .returned u ∧ w'.ownsRow W.heap.size 3 1 u (l.length + 1) (ints (l ++ [x])) ∧ W.grownBy w' none) := fun V W hV => punder_any V l x W hV.a Hbz.out
  have DU : Hid (∀ V W, IntsB W V l → Calls Try.prog 25 #[V, .int .i64 x] W fun e w' => ∃ u, e = .returned u ∧ w'.ownsRow W.heap.size 3 1 u (l.length + 1) (ints (l ++ [x])) ∧ W.grownBy w' none) := fun V W hV => runder_any V l x W hV.a Hbz.out
  have D3 : Hid (∀ V W, IntsB W V l → Calls Try.prog 18 #[V, .int .i64 x] W fun e w' => ∃ u, e = .returned (.tuple #[u, .bool b2]) ∧ w'.ownsRow W.heap.size 3 1 u lc.length (ints lc) ∧ W.grownBy w' none) := fun V W hV => by
    refine (pwithout_any V l x W hV Hbz.out).mono ?_
    rintro e w' ⟨u, h1, ⟨m, h2, h3⟩, h4⟩
    exact ⟨u, by rw [h1, hb2], by rw [hlc, ← h2]; exact h3, h4⟩
  have D7 : Hid (∀ V W, IntsB W V l → Calls Try.prog 22 #[V, .int .i64 x] W fun e w' => ∃ u, e = .returned (.tuple #[u, .bool b2]) ∧ w'.ownsRow W.heap.size 3 1 u lc.length (ints lc) ∧ W.grownBy w' none) := fun V W hV => by
    refine (rwithout_any V l x W hV Hbz.out).mono ?_
    rintro e w' ⟨u, h1, ⟨m, h2, h3⟩, h4⟩
    exact ⟨u, by rw [h1, hb2], by rw [hlc, ← h2]; exact h3, h4⟩
  have D4 : Hid (∀ V W, IntsB W V l → Calls Try.prog 19 #[V, .int .i64 n9] W fun e w' => ∃ u v, e = .returned (.tuple #[u, v, .int .i64 z1]) ∧ (∃ m, W.heap.size ≤ m ∧ m ≤ w'.heap.size ∧ (∀ b, u.ownBlock = some b → b < m) ∧ w'.ownsRow W.heap.size 3 1 u ld.length (ints ld) ∧ w'.ownsRow m 3 1 v le.length (ints le)) ∧ W.grownBy w' none) := fun V W hV => by
    have := pcut_any V l n9 W hV Hbz.out
    unfold CuPost at this
    rw [← hzc] at this
    exact this
  have D8 : Hid (∀ V W, IntsB W V l → Calls Try.prog 23 #[V, .int .i64 n9] W fun e w' => ∃ u v, e = .returned (.tuple #[u, v, .int .i64 z1]) ∧ (∃ m, W.heap.size ≤ m ∧ m ≤ w'.heap.size ∧ (∀ b, u.ownBlock = some b → b < m) ∧ w'.ownsRow W.heap.size 3 1 u ld.length (ints ld) ∧ w'.ownsRow m 3 1 v le.length (ints le)) ∧ W.grownBy w' none) := fun V W hV => by
    have := rcut_any V l n9 W hV Hbz.out
    unfold CuPost at this
    rw [← hzc] at this
    exact this
  have D5 : Hid (∀ V W, IntsB W V l → Calls Try.prog 20 #[V, .int .i64 h9, .int .i64 e9] W fun e w' => ∃ u v, e = .returned (.tuple #[u, v, .int .i64 z2]) ∧ (∃ vs m, w'.ownsRow W.heap.size 22 1 u hs.length vs ∧ HandsAt w' W.heap.size vs hs m ∧ W.heap.size ≤ m ∧ m ≤ w'.heap.size ∧ w'.ownsRow m 3 1 v lg.length (ints lg)) ∧ W.grownBy w' none) := fun V W hV => by
    have := pdeal_any V l h9 e9 W hV Hbz.out
    unfold DePost at this
    rw [← hzd] at this
    exact this
  have D9 : Hid (∀ V W, IntsB W V l → Calls Try.prog 24 #[V, .int .i64 h9, .int .i64 e9] W fun e w' => ∃ u v, e = .returned (.tuple #[u, v, .int .i64 z2]) ∧ (∃ vs m, w'.ownsRow W.heap.size 22 1 u hs.length vs ∧ HandsAt w' W.heap.size vs hs m ∧ W.heap.size ≤ m ∧ m ≤ w'.heap.size ∧ w'.ownsRow m 3 1 v lg.length (ints lg)) ∧ W.grownBy w' none) := fun V W hV => by
    have := rdeal_any V l h9 e9 W hV Hbz.out
    unfold DePost at this
    rw [← hzd] at this
    exact this
  have HH : Hid (hs.length ≤ 64) := by have := deal_few l h9 e9; rw [← hzd] at this; exact this
  clear hx0 hb1 hla hb2 hlc hzc hzd
  have CL := lentI_any _ l w HI.out.a Hbz.out
  rw [Hn.out] at CL
  go_enter Try.func4, Try.ntmps4
  go_wp2_with fail
  refine CL.mono ?_
  rintro e U0 ⟨rfl, O0, g0⟩
  have HG0 : Hid (w.grownBy U0 none) := g0
  obtain ⟨f, hf⟩ : ∃ f, f = w.heap.size := ⟨_, rfl⟩
  rw [← hf] at O0 ⊢
  have Hf : Hid (f = w.heap.size) := hf
  have HO0 : Hid (U0.ownsRow f 3 1 (.slice (some ⟨f, 0, none⟩) (n + 2) (n + 2)) (n + 2) (ints (l ++ [-77, -77]))) := O0
  have Hf0 : Hid (f < U0.heap.size) := own_blt O0
  clear CL g0 O0 hf
  have C1 := D1.out _ U0 (lent_B HO0.out Hn.out)
  clear D1
  go_wp2_with fail
  refine C1.mono ?_
  rintro e U1 ⟨a, rfl, o1, g1⟩
  obtain ⟨aa, ac, rfl⟩ := own_form o1
  have Ba : Hid (∀ b, (Value.slice aa la.length ac).ownBlock = some b → U0.heap.size ≤ b ∧ b < U1.heap.size) := fun b hb => ⟨(World.ownsRow.lt o1 b hb).1, (World.ownsRow.lt o1 b hb).2⟩
  have Ha : Hid (U1.ownsRow U0.heap.size 3 1 (.slice aa la.length ac) la.length (ints la)) := o1
  clear o1
  have HG1 : Hid (U0.grownBy U1 none) := g1
  clear C1 g1
  have C2 := D2.out _ U1 (IntsB.keep (lent_B HO0.out Hn.out) HG1.out)
  rw [Hn.out] at C2
  clear D2
  go_wp2_with fail
  refine C2.mono ?_
  rintro e U2 ⟨b, rfl, o1, g2⟩
  obtain ⟨ba, bc, rfl⟩ := own_form o1
  have Bb : Hid (∀ b, (Value.slice ba (n + 1) bc).ownBlock = some b → U1.heap.size ≤ b ∧ b < U2.heap.size) := fun b hb => ⟨(World.ownsRow.lt o1 b hb).1, (World.ownsRow.lt o1 b hb).2⟩
  have Hb : Hid (U2.ownsRow U1.heap.size 3 1 (.slice ba (n + 1) bc) (n + 1) (ints (l ++ [x]))) := o1
  clear o1
  have HG2 : Hid (U1.grownBy U2 none) := g2
  clear C2 g2
  have C3 := D3.out _ U2 (IntsB.keep (lent_B HO0.out Hn.out) (grown_trans HG1.out HG2.out))
  clear D3
  go_wp2_with fail
  refine C3.mono ?_
  rintro e U3 ⟨c, rfl, o1, g3⟩
  obtain ⟨ca, cc, rfl⟩ := own_form o1
  have Bc : Hid (∀ b, (Value.slice ca lc.length cc).ownBlock = some b → U2.heap.size ≤ b ∧ b < U3.heap.size) := fun b hb => ⟨(World.ownsRow.lt o1 b hb).1, (World.ownsRow.lt o1 b hb).2⟩
  have Hc : Hid (U3.ownsRow U2.heap.size 3 1 (.slice ca lc.length cc) lc.length (ints lc)) := o1
  clear o1
  have HG3 : Hid (U2.grownBy U3 none) := g3
  clear C3 g3
  have C4 := D4.out _ U3 (IntsB.keep (lent_B HO0.out Hn.out) (grown_trans (grown_trans HG1.out HG2.out) HG3.out))
  clear D4
  go_wp2_with fail
  refine C4.mono ?_
  rintro e U4 ⟨d, e, rfl, ⟨m4, hm1, hm2, hd, o1, o2⟩, g4⟩
  obtain ⟨da, dc, rfl⟩ := own_form o1
  have Bd : Hid (∀ b, (Value.slice da ld.length dc).ownBlock = some b → U3.heap.size ≤ b ∧ b < m4) := fun b hb => ⟨(World.ownsRow.lt o1 b hb).1, hd b hb⟩
  have Hd : Hid (U4.ownsRow U3.heap.size 3 1 (.slice da ld.length dc) ld.length (ints ld)) := o1
  clear o1
  obtain ⟨ea, ec, rfl⟩ := own_form o2
  have Be : Hid (∀ b, (Value.slice ea le.length ec).ownBlock = some b → m4 ≤ b ∧ b < U4.heap.size) := fun b hb => ⟨(World.ownsRow.lt o2 b hb).1, (World.ownsRow.lt o2 b hb).2⟩
  have He : Hid (U4.ownsRow m4 3 1 (.slice ea le.length ec) le.length (ints le)) := o2
  clear o2
  have HM4 : Hid (U3.heap.size ≤ m4 ∧ m4 ≤ U4.heap.size) := ⟨hm1, hm2⟩
  clear hm1 hm2 hd
  have HG4 : Hid (U3.grownBy U4 none) := g4
  clear C4 g4
  have C5 := D5.out _ U4 (IntsB.keep (lent_B HO0.out Hn.out) (grown_trans (grown_trans (grown_trans HG1.out HG2.out) HG3.out) HG4.out))
  clear D5
  go_wp2_with fail
  refine C5.mono ?_
  rintro e U5 ⟨fv, g, rfl, ⟨vs, mg, o1, hh, hm1, hm2, o2⟩, g5⟩
  obtain ⟨ga0, gc0, rfl⟩ := own_form o2
  have Bg : Hid (∀ b, (Value.slice ga0 lg.length gc0).ownBlock = some b → mg ≤ b ∧ b < U5.heap.size) := fun b hb => ⟨(World.ownsRow.lt o2 b hb).1, (World.ownsRow.lt o2 b hb).2⟩
  have Hg : Hid (U5.ownsRow mg 3 1 (.slice ga0 lg.length gc0) lg.length (ints lg)) := o2
  clear o2
  obtain ⟨fa, fc, rfl⟩ := own22_form o1
  have Hfr : Hid (U5.ownsRow U4.heap.size 22 1 (.slice fa hs.length fc) hs.length vs ∧ HandsAt U5 U4.heap.size vs hs mg) := ⟨o1, hh⟩
  have HMg : Hid (U4.heap.size ≤ mg ∧ mg ≤ U5.heap.size) := ⟨hm1, hm2⟩
  clear o1 hh hm1 hm2
  have HG5 : Hid (U4.grownBy U5 none) := g5
  clear C5 g5
  have GI5 : Hid (w.grownBy U5 none) := grown_trans HG0.out (grown_trans (grown_trans (grown_trans (grown_trans HG1.out HG2.out) HG3.out) HG4.out) HG5.out)
  have C6 := D6.out _ U5 (HI.out.keep GI5.out)
  clear D6
  go_wp2_with fail
  refine C6.mono ?_
  rintro e U6 ⟨p, rfl, o1, g6⟩
  obtain ⟨pa, pc, rfl⟩ := own_form o1
  have Bp : Hid (∀ b, (Value.slice pa la.length pc).ownBlock = some b → U5.heap.size ≤ b ∧ b < U6.heap.size) := fun b hb => ⟨(World.ownsRow.lt o1 b hb).1, (World.ownsRow.lt o1 b hb).2⟩
  have Hp : Hid (U6.ownsRow U5.heap.size 3 1 (.slice pa la.length pc) la.length (ints la)) := o1
  clear o1
  have HG6 : Hid (U5.grownBy U6 none) := g6
  clear C6 g6
  have GI6 : Hid (w.grownBy U6 none) := grown_trans GI5.out HG6.out
  have C7 := D7.out _ U6 (HI.out.keep GI6.out)
  clear D7
  go_wp2_with fail
  refine C7.mono ?_
  rintro e U7 ⟨q, rfl, o1, g7⟩
  obtain ⟨qa, qc, rfl⟩ := own_form o1
  have Bq : Hid (∀ b, (Value.slice qa lc.length qc).ownBlock = some b → U6.heap.size ≤ b ∧ b < U7.heap.size) := fun b hb => ⟨(World.ownsRow.lt o1 b hb).1, (World.ownsRow.lt o1 b hb).2⟩
  have Hq : Hid (U7.ownsRow U6.heap.size 3 1 (.slice qa lc.length qc) lc.length (ints lc)) := o1
  clear o1
  have HG7 : Hid (U6.grownBy U7 none) := g7
  clear C7 g7
  have GI7 : Hid (w.grownBy U7 none) := grown_trans GI6.out HG7.out
  have C8 := D8.out _ U7 (HI.out.keep GI7.out)
  clear D8
  go_wp2_with fail
  refine C8.mono ?_
  rintro e U8 ⟨r, s, rfl, ⟨m8, hm1, hm2, hd, o1, o2⟩, g8⟩
  obtain ⟨ra, rc, rfl⟩ := own_form o1
  have Br : Hid (∀ b, (Value.slice ra ld.length rc).ownBlock = some b → U7.heap.size ≤ b ∧ b < m8) := fun b hb => ⟨(World.ownsRow.lt o1 b hb).1, hd b hb⟩
  have Hr : Hid (U8.ownsRow U7.heap.size 3 1 (.slice ra ld.length rc) ld.length (ints ld)) := o1
  clear o1
  obtain ⟨sa, sc, rfl⟩ := own_form o2
  have Bs : Hid (∀ b, (Value.slice sa le.length sc).ownBlock = some b → m8 ≤ b ∧ b < U8.heap.size) := fun b hb => ⟨(World.ownsRow.lt o2 b hb).1, (World.ownsRow.lt o2 b hb).2⟩
  have Hs : Hid (U8.ownsRow m8 3 1 (.slice sa le.length sc) le.length (ints le)) := o2
  clear o2
  have HM8 : Hid (U7.heap.size ≤ m8 ∧ m8 ≤ U8.heap.size) := ⟨hm1, hm2⟩
  clear hm1 hm2 hd Br Bs Bp Bq
  have HG8 : Hid (U7.grownBy U8 none) := g8
  clear C8 g8
  have GI8 : Hid (w.grownBy U8 none) := grown_trans GI7.out HG8.out
  have C9 := D9.out _ U8 (HI.out.keep GI8.out)
  clear D9
  go_wp2_with fail
  refine C9.mono ?_
  rintro e U9 ⟨fw, t, rfl, ⟨ws, mt, o1, hh, hm1, hm2, o2⟩, g9⟩
  obtain ⟨ta, tc, rfl⟩ := own_form o2
  have Bt : Hid (∀ b, (Value.slice ta lg.length tc).ownBlock = some b → mt ≤ b ∧ b < U9.heap.size) := fun b hb => ⟨(World.ownsRow.lt o2 b hb).1, (World.ownsRow.lt o2 b hb).2⟩
  have Ht : Hid (U9.ownsRow mt 3 1 (.slice ta lg.length tc) lg.length (ints lg)) := o2
  clear o2
  obtain ⟨ga, gc, rfl⟩ := own22_form o1
  have Hgr : Hid (U9.ownsRow U8.heap.size 22 1 (.slice ga hs.length gc) hs.length ws ∧ HandsAt U9 U8.heap.size ws hs mt) := ⟨o1, hh⟩
  have HMt : Hid (U8.heap.size ≤ mt) := hm1
  clear o1 hh hm1 hm2 Bt
  have HG9 : Hid (U8.grownBy U9 none) := g9
  clear C9 g9
  have GI9 : Hid (w.grownBy U9 none) := grown_trans GI8.out HG9.out
  have HF9 : Hid (U9.ownsRow f 3 1 (.slice (some ⟨f, 0, none⟩) (n + 2) (n + 2)) (n + 2) (ints (l ++ [-77, -77]))) := own_keepN HO0.out (grown_trans (grown_trans (grown_trans (grown_trans (grown_trans (grown_trans (grown_trans (grown_trans HG1.out HG2.out) HG3.out) HG4.out) HG5.out) HG6.out) HG7.out) HG8.out) HG9.out)
  have CK := keptI_any (.slice (some ⟨f, 0, none⟩) (n + 2) (n + 2)) _ f l U9 (by have := HF9.out; rw [← Hn.out] at this ⊢; exact own_app this) (HI.out.keep GI9.out).a Hbz.out
  clear HO0
  go_wp2_with fail
  refine CK.mono ?_
  rintro e U10 ⟨rfl, g10⟩
  have HG10 : Hid (U9.grownBy U10 none) := g10
  have GI10 : Hid (w.grownBy U10 none) := grown_trans GI9.out g10
  have CO := overI_any f f (n + 2) (n + 2) (l ++ [-77, -77]) U10 (own_keepN HF9.out g10) (by simp [Hn.out]) (by omega)
  clear CK g10 HF9
  go_wp2_with fail
  refine CO.mono ?_
  rintro e U11 ⟨rfl, ⟨ys, hys, O11⟩, g11⟩
  have HS : Hid (U0.heap.size ≤ U1.heap.size ∧ U1.heap.size ≤ U2.heap.size ∧ U2.heap.size ≤ U3.heap.size ∧ U3.heap.size ≤ U4.heap.size ∧ U4.heap.size ≤ U5.heap.size ∧ U5.heap.size ≤ U6.heap.size ∧ U6.heap.size ≤ U7.heap.size ∧ U7.heap.size ≤ U8.heap.size ∧ U8.heap.size ≤ U9.heap.size) := ⟨HG1.out.size, HG2.out.size, HG3.out.size, HG4.out.size, HG5.out.size, HG6.out.size, HG7.out.size, HG8.out.size, HG9.out.size⟩
  have Ka : Hid (U11.ownsRow U0.heap.size 3 1 (.slice aa la.length ac) la.length (ints la)) := L_keep (own_keepN Ha.out (grown_trans (grown_trans (grown_trans (grown_trans (grown_trans (grown_trans (grown_trans (grown_trans HG2.out HG3.out) HG4.out) HG5.out) HG6.out) HG7.out) HG8.out) HG9.out) HG10.out)) g11 (by have := Hf0.out; have := HS.out; have := HM4.out; have := HM8.out; have := HMg.out; have := HMt.out; omega)
  clear Ha
  have Kb : Hid (U11.ownsRow U1.heap.size 3 1 (.slice ba (n + 1) bc) (n + 1) (ints (l ++ [x]))) := L_keep (own_keepN Hb.out (grown_trans (grown_trans (grown_trans (grown_trans (grown_trans (grown_trans (grown_trans HG3.out HG4.out) HG5.out) HG6.out) HG7.out) HG8.out) HG9.out) HG10.out)) g11 (by have := Hf0.out; have := HS.out; have := HM4.out; have := HM8.out; have := HMg.out; have := HMt.out; omega)
  clear Hb
  have Kc : Hid (U11.ownsRow U2.heap.size 3 1 (.slice ca lc.length cc) lc.length (ints lc)) := L_keep (own_keepN Hc.out (grown_trans (grown_trans (grown_trans (grown_trans (grown_trans (grown_trans HG4.out HG5.out) HG6.out) HG7.out) HG8.out) HG9.out) HG10.out)) g11 (by have := Hf0.out; have := HS.out; have := HM4.out; have := HM8.out; have := HMg.out; have := HMt.out; omega)
  clear Hc
  have Kd : Hid (U11.ownsRow U3.heap.size 3 1 (.slice da ld.length dc) ld.length (ints ld)) := L_keep (own_keepN Hd.out (grown_trans (grown_trans (grown_trans (grown_trans (grown_trans HG5.out HG6.out) HG7.out) HG8.out) HG9.out) HG10.out)) g11 (by have := Hf0.out; have := HS.out; have := HM4.out; have := HM8.out; have := HMg.out; have := HMt.out; omega)
  clear Hd
  have Ke : Hid (U11.ownsRow m4 3 1 (.slice ea le.length ec) le.length (ints le)) := L_keep (own_keepN He.out (grown_trans (grown_trans (grown_trans (grown_trans (grown_trans HG5.out HG6.out) HG7.out) HG8.out) HG9.out) HG10.out)) g11 (by have := Hf0.out; have := HS.out; have := HM4.out; have := HM8.out; have := HMg.out; have := HMt.out; omega)
  clear He
  have Kg : Hid (U11.ownsRow mg 3 1 (.slice ga0 lg.length gc0) lg.length (ints lg)) := L_keep (own_keepN Hg.out (grown_trans (grown_trans (grown_trans (grown_trans HG6.out HG7.out) HG8.out) HG9.out) HG10.out)) g11 (by have := Hf0.out; have := HS.out; have := HM4.out; have := HM8.out; have := HMg.out; have := HMt.out; omega)
  clear Hg
  have Kp : Hid (U11.ownsRow U5.heap.size 3 1 (.slice pa la.length pc) la.length (ints la)) := L_keep (own_keepN Hp.out (grown_trans (grown_trans (grown_trans HG7.out HG8.out) HG9.out) HG10.out)) g11 (by have := Hf0.out; have := HS.out; have := HM4.out; have := HM8.out; have := HMg.out; have := HMt.out; omega)
  clear Hp
  have Kq : Hid (U11.ownsRow U6.heap.size 3 1 (.slice qa lc.length qc) lc.length (ints lc)) := L_keep (own_keepN Hq.out (grown_trans (grown_trans HG8.out HG9.out) HG10.out)) g11 (by have := Hf0.out; have := HS.out; have := HM4.out; have := HM8.out; have := HMg.out; have := HMt.out; omega)
  clear Hq
  have Kr : Hid (U11.ownsRow U7.heap.size 3 1 (.slice ra ld.length rc) ld.length (ints ld)) := L_keep (own_keepN Hr.out (grown_trans HG9.out HG10.out)) g11 (by have := Hf0.out; have := HS.out; have := HM4.out; have := HM8.out; have := HMg.out; have := HMt.out; omega)
  clear Hr
  have Ks : Hid (U11.ownsRow m8 3 1 (.slice sa le.length sc) le.length (ints le)) := L_keep (own_keepN Hs.out (grown_trans HG9.out HG10.out)) g11 (by have := Hf0.out; have := HS.out; have := HM4.out; have := HM8.out; have := HMg.out; have := HMt.out; omega)
  clear Hs
  have Kt : Hid (U11.ownsRow mt 3 1 (.slice ta lg.length tc) lg.length (ints lg)) := L_keep (own_keepN Ht.out HG10.out) g11 (by have := Hf0.out; have := HS.out; have := HM4.out; have := HM8.out; have := HMg.out; have := HMt.out; omega)
  clear Ht
  have KF : Hid (U11.ownsRow U4.heap.size 22 1 (.slice fa hs.length fc) hs.length vs ∧ HandsAt U11 U4.heap.size vs hs mg) := ⟨own22_over (own22_keep Hfr.out.1 (grown_trans (grown_trans (grown_trans (grown_trans HG6.out HG7.out) HG8.out) HG9.out) HG10.out)) g11 (by have := Hf0.out; have := HS.out; omega), HandsAt.over (HandsAt.keep Hfr.out.2 (grown_trans (grown_trans (grown_trans (grown_trans HG6.out HG7.out) HG8.out) HG9.out) HG10.out)) g11 (by have := Hf0.out; have := HS.out; omega)⟩
  have KG : Hid (U11.ownsRow U8.heap.size 22 1 (.slice ga hs.length gc) hs.length ws ∧ HandsAt U11 U8.heap.size ws hs mt) := ⟨own22_over (own22_keep Hgr.out.1 HG10.out) g11 (by have := Hf0.out; have := HS.out; omega), HandsAt.over (HandsAt.keep Hgr.out.2 HG10.out) g11 (by have := Hf0.out; have := HS.out; omega)⟩
  have KO : Hid (U11.ownsRow f 3 1 (.slice (some ⟨f, 0, none⟩) (n + 2) (n + 2)) (n + 2) (ints ys)) := O11
  have KW : Hid (w.grownBy U11 none) := grown_own GI10.out g11 (fun x e => by cases e; exact Nat.le_of_eq Hf.out.symm)
  clear O11 g11 hys CO Hfr Hgr HG1 HG2 HG3 HG4 HG5 HG6 HG7 HG8 HG9 HG10 GI5 GI6 GI7 GI8 GI9 GI10 HG0
  obtain ⟨V7, hV7⟩ : ∃ V7 : List Value, V7 = [.slice (some ⟨f, 0, none⟩) (n + 2) (n + 2), .slice aa la.length ac, .slice ba (n + 1) bc, .slice ca lc.length cc, .slice da ld.length dc, .slice ea le.length ec, .slice ga0 lg.length gc0] := ⟨_, rfl⟩
  have HV7 : Hid (V7 = [.slice (some ⟨f, 0, none⟩) (n + 2) (n + 2), .slice aa la.length ac, .slice ba (n + 1) bc, .slice ca lc.length cc, .slice da ld.length dc, .slice ea le.length ec, .slice ga0 lg.length gc0]) := hV7
  obtain ⟨X, hX⟩ : ∃ X, X = U11.alloc (.cells V7.toArray 22) := ⟨_, rfl⟩
  have HX : Hid (U11.alloc (.cells #[.slice (some ⟨f, 0, none⟩) (n + 2) (n + 2), .slice aa la.length ac, .slice ba (n + 1) bc, .slice ca lc.length cc, .slice da ld.length dc, .slice ea le.length ec, .slice ga0 lg.length gc0] 22) = X) := by show _ = X; rw [hX, hV7]
  have KX : Hid (U11.grownBy X none) := by rw [hX]; exact World.grownBy_alloc _ _ none
  have KR : Hid (X.ownsRow U11.heap.size 22 1 (.slice (some ⟨U11.heap.size, 0, none⟩) 7 7) 7 V7) := by
    show X.ownsRow U11.heap.size 22 1 (.slice (some ⟨U11.heap.size, 0, none⟩) 7 7) 7 V7
    rw [hX]
    have h9 := World.ownsRow_lit (e := 22) (size := 1) (base := U11.heap.size) U11 V7.toArray 7 (Nat.le_refl _) (by decide) (by rw [hV7]; rfl)
    simpa using h9
  clear hV7 hX
  obtain ⟨H, hH⟩ : ∃ H, H = hs.length := ⟨_, rfl⟩
  have HHs : Hid (H = hs.length) := hH
  rw [← hH] at KF KG HH ⊢
  have hH9 : (H : Int) ≤ 64 := by have := HH.out; omega
  have hmH : Small H := by have := HH.out; unfold Small; omega
  clear hH
  obtain ⟨q9, hq9⟩ : ∃ q9, q9 = U11.heap.size := ⟨_, rfl⟩
  have HQ9 : Hid (q9 = U11.heap.size) := hq9
  rw [← hq9] at KR
  clear hq9
  go_wp2_with fail
  rw [HX.out, ← HQ9.out]
  go_loopw [36, 37] (fun av i wr => ∃ k : Nat, k ≤ H ∧ i = .int .i64 (k : Int) ∧ wr.ownsRow q9 22 1 av (7 + k) (V7 ++ vs.take k) ∧ U11.grownBy wr none) (fun _ i _ => H - (intOf i).toNat)
  case atStart => exact ⟨0, Nat.zero_le _, rfl, by have := KR.out; simpa using this, KX.out⟩
  case round =>
    clear KR HX KX
    obtain ⟨k, hk, rfl, ho, hg⟩ := hrel
    obtain ⟨U, hU⟩ : ∃ U, U = wr := ⟨_, rfl⟩
    subst hU
    obtain ⟨ava, avc, rfl⟩ := own22_form ho
    have HO : Hid (U.ownsRow q9 22 1 (.slice ava (7 + k) avc) (7 + k) (V7 ++ vs.take k)) := ho
    have HGV : Hid (U11.grownBy U none) := hg
    have HQU : Hid (q9 ≤ U.heap.size) := by show q9 ≤ U.heap.size; rw [HQ9.out]; exact HGV.out.size
    clear ho hg
    by_cases hlt : k < H
    · have hlt' : (k : Int) < (H : Int) := by omega
      obtain ⟨fb, rfl⟩ := row_plain KF.out.1 hlt
      obtain ⟨gb, rfl⟩ := row_plain KG.out.1 hlt
      obtain ⟨vk, lk, hvk, hlk, ok⟩ := (KF.out.2.keep HGV.out).at (i := k) (by rw [← HHs.out]; exact hlt)
      obtain ⟨wk, lk2, hwk, hlk2, ok2⟩ := (KG.out.2.keep HGV.out).at (i := k) (by rw [← HHs.out]; exact hlt)
      obtain rfl : lk = lk2 := by rw [hlk] at hlk2; cases hlk2; rfl
      obtain ⟨vka, vkc, rfl⟩ := own_form ok
      obtain ⟨wka, wkc, rfl⟩ := own_form ok2
      have c1 : U.cell? ⟨fb, k, none⟩ = some (.slice vka lk.length vkc) := by rw [World.ownsRow.cellAt (own22_keep KF.out.1 HGV.out) k (by omega)]; exact hvk
      have c2 : U.cell? ⟨gb, k, none⟩ = some (.slice wka lk.length wkc) := by rw [World.ownsRow.cellAt (own22_keep KG.out.1 HGV.out) k (by omega)]; exact hwk
      have HD : Hid (U.grownBy U.drew none) := grown_drew _
      have CS := same_own (own_keepN ok HD.out) (own_keepN ok2 HD.out) rfl
      have HSn : Hid (vs.take k ++ [.slice vka lk.length vkc] = vs.take (k + 1)) := take_snoc hvk
      clear hvk hlk hwk hlk2 ok ok2
      obtain ⟨nk, hnk⟩ : ∃ nk, nk = lk.length := ⟨_, rfl⟩
      rw [← hnk] at c1 c2 CS HSn
      clear hnk
      go_upto_region 19 with fail
      go_region_with (go_at_call 14; refine CS.mono ?_; clear CS; rintro e U1 ⟨rfl, g1⟩; have HG1 : Hid (U.grownBy U1 none) := grown_trans HD.out g1; clear g1)
      all_goals
        have c3 : U1.cell? ⟨fb, k, none⟩ = some (.slice vka nk vkc) := HG1.out.cell c1 (by simp)
        have HP1 : Hid (U1.ownsRow q9 22 1 (.slice ava (7 + k) avc) (7 + k) (V7 ++ vs.take k)) := own22_keep HO.out HG1.out
        have Hw : Hid (q9 ≤ U1.heap.size) := Nat.le_trans HQU.out HG1.out.size
        clear c1 c2
        go_wp2_with (at_builtin; refine wpList_append_own_at _ rfl (.tmp 163) (.tmp 168) 32 rfl q9 22 i1 (.slice none 0 0) 1 24 Try.underlying32 hi1 hy0 hy1 hy2 rfl (by decide) (.slice ava (7 + k) avc) (7 + k) (V7 ++ vs.take k) rfl (HP1.out.alloc _) ⟨U1.heap.size, 0, none⟩ 1 1 [.slice vka nk vkc] rfl rfl (cell22_one _ _) (fun x hx => by simp at hx; subst hx; rfl) (by have := HH.out; unfold maxLen; omega) (by have := HH.out; omega) (by have := Hw.out; rw [World.size_alloc]; omega) ?_; intro v' w7 hown' hgrow7 hnil7 hlie; have HF : Hid (w7.ownsRow q9 22 1 v' (7 + (k + 1)) (V7 ++ vs.take (k + 1)) ∧ U11.grownBy w7 none) := ⟨by rw [← HSn.out, ← List.append_assoc]; exact hown', KXrow hgrow7 HP1.out (grown_trans HGV.out HG1.out) HQ9.out⟩; clear hown' hgrow7 hnil7 hlie)
        go_roundw
        case rel => exact ⟨k + 1, hlt, by first | rfl | (rw [hmH.wrap hlt]; rfl), HF.out.1, HF.out.2⟩
        case measure => first | exact meas_next hlt | (rw [hmH.wrap hlt]; exact meas_next hlt)
    · have hlt' : ¬ (k : Int) < (H : Int) := by omega
      obtain rfl : k = H := by omega
      have HGX : Hid (w.grownBy U none) := grown_trans KW.out HGV.out
      have HO2 : Hid (U.ownsRow q9 22 1 (.slice ava (7 + k) avc) (7 + k) (V7 ++ vs)) := by
        have h9 := HO.out
        rw [List.take_of_length_le (by rw [KF.out.2.1, ← HHs.out]; exact Nat.le_refl _)] at h9
        exact h9
      clear HO
      have E1 := same_own (own_keepN Ka.out HGV.out) (own_keepN Kp.out HGV.out) rfl
      go_wp2_with fail
      refine E1.mono ?_
      rintro e Y1 ⟨rfl, g1⟩
      have HGW : Hid (U11.grownBy Y1 none) := grown_trans HGV.out g1
      have HGY : Hid (w.grownBy Y1 none) := grown_trans HGX.out g1
      have HO3 : Hid (Y1.ownsRow q9 22 1 (.slice ava (7 + k) avc) (7 + k) (V7 ++ vs)) := own22_keep HO2.out g1
      clear E1 g1 HGV HGX HO2
      have HGV := HGW
      have HGX := HGY
      have HO2 := HO3
      clear HGW HGY HO3
      have EU := DU.out _ Y1 (HI.out.keep HGX.out)
      rw [Hn.out] at EU
      go_wp2_with fail
      refine EU.mono ?_
      rintro e Y2 ⟨u, rfl, o1, g1⟩
      have HGW : Hid (U11.grownBy Y2 none) := grown_trans HGV.out g1
      have HGY : Hid (w.grownBy Y2 none) := grown_trans HGX.out g1
      have HO3 : Hid (Y2.ownsRow q9 22 1 (.slice ava (7 + k) avc) (7 + k) (V7 ++ vs)) := own22_keep HO2.out g1
      have E2 := same_own (own_keepN Kb.out HGW.out) o1 (by rw [List.length_append, Hn.out]; rfl)
      clear EU g1 HGV HGX HO2 o1
      have HGV := HGW
      have HGX := HGY
      have HO2 := HO3
      clear HGW HGY HO3
      go_wp2_with fail
      refine E2.mono ?_
      rintro e Y3 ⟨rfl, g1⟩
      have HGW : Hid (U11.grownBy Y3 none) := grown_trans HGV.out g1
      have HGY : Hid (w.grownBy Y3 none) := grown_trans HGX.out g1
      have HO3 : Hid (Y3.ownsRow q9 22 1 (.slice ava (7 + k) avc) (7 + k) (V7 ++ vs)) := own22_keep HO2.out g1
      clear E2 g1 HGV HGX HO2
      have HGV := HGW
      have HGX := HGY
      have HO2 := HO3
      clear HGW HGY HO3
      have E3 := same_own (own_keepN Kc.out HGV.out) (own_keepN Kq.out HGV.out) rfl
      go_wp2_with fail
      refine E3.mono ?_
      rintro e Y4 ⟨rfl, g1⟩
      have HGW : Hid (U11.grownBy Y4 none) := grown_trans HGV.out g1
      have HGY : Hid (w.grownBy Y4 none) := grown_trans HGX.out g1
      have HO3 : Hid (Y4.ownsRow q9 22 1 (.slice ava (7 + k) avc) (7 + k) (V7 ++ vs)) := own22_keep HO2.out g1
      clear E3 g1 HGV HGX HO2
      have HGV := HGW
      have HGX := HGY
      have HO2 := HO3
      clear HGW HGY HO3
      have E4 := same_own (own_keepN Kd.out HGV.out) (own_keepN Kr.out HGV.out) rfl
      go_wp2_with fail
      refine E4.mono ?_
      rintro e Y5 ⟨rfl, g1⟩
      have HGW : Hid (U11.grownBy Y5 none) := grown_trans HGV.out g1
      have HGY : Hid (w.grownBy Y5 none) := grown_trans HGX.out g1
      have HO3 : Hid (Y5.ownsRow q9 22 1 (.slice ava (7 + k) avc) (7 + k) (V7 ++ vs)) := own22_keep HO2.out g1
      clear E4 g1 HGV HGX HO2
      have HGV := HGW
      have HGX := HGY
      have HO2 := HO3
      clear HGW HGY HO3
      have E5 := same_own (own_keepN Ke.out HGV.out) (own_keepN Ks.out HGV.out) rfl
      go_wp2_with fail
      refine E5.mono ?_
      rintro e Y6 ⟨rfl, g1⟩
      have HGW : Hid (U11.grownBy Y6 none) := grown_trans HGV.out g1
      have HGY : Hid (w.grownBy Y6 none) := grown_trans HGX.out g1
      have HO3 : Hid (Y6.ownsRow q9 22 1 (.slice ava (7 + k) avc) (7 + k) (V7 ++ vs)) := own22_keep HO2.out g1
      clear E5 g1 HGV HGX HO2
      have HGV := HGW
      have HGX := HGY
      have HO2 := HO3
      clear HGW HGY HO3
      have E6 := same_own (own_keepN Kg.out HGV.out) (own_keepN Kt.out HGV.out) rfl
      go_wp2_with fail
      refine E6.mono ?_
      rintro e Y7 ⟨rfl, g1⟩
      have HGW : Hid (U11.grownBy Y7 none) := grown_trans HGV.out g1
      have HGY : Hid (w.grownBy Y7 none) := grown_trans HGX.out g1
      have HO3 : Hid (Y7.ownsRow q9 22 1 (.slice ava (7 + k) avc) (7 + k) (V7 ++ vs)) := own22_keep HO2.out g1
      clear E6 g1 HGV HGX HO2
      have HGV := HGW
      have HGX := HGY
      have HO2 := HO3
      clear HGW HGY HO3
      obtain ⟨ab, rfl⟩ := row_plain HO2.out (show 0 < 7 + k by omega)
      have hF9 : ∀ x, (Value.slice (some ⟨f, 0, none⟩) (n + 2) (n + 2)).ownBlock = some x → x = f := fun x hx => by simp [Value.ownBlock] at hx; exact hx.symm
      have hBv := KF.out.2.blk
      have hS := HS.out
      have hM4 := HM4.out
      have hMg := HMg.out
      have hf0 := Hf0.out
      have EA := apart_vals q9 ab avc (7 + k) (V7 ++ vs) Y7 HO2.out (by omega) (by have := HH.out; omega)
        (fun v hv => by
          rcases List.mem_append.1 hv with hv | hv
          · rw [HV7.out] at hv
            simp only [List.mem_cons, List.not_mem_nil, or_false] at hv
            rcases hv with rfl | rfl | rfl | rfl | rfl | rfl | rfl
            · exact ⟨_, _, _, own_keepN KO.out HGV.out⟩
            · exact ⟨_, _, _, own_keepN Ka.out HGV.out⟩
            · exact ⟨_, _, _, own_keepN Kb.out HGV.out⟩
            · exact ⟨_, _, _, own_keepN Kc.out HGV.out⟩
            · exact ⟨_, _, _, own_keepN Kd.out HGV.out⟩
            · exact ⟨_, _, _, own_keepN Ke.out HGV.out⟩
            · exact ⟨_, _, _, own_keepN Kg.out HGV.out⟩
          · exact (KF.out.2.keep HGV.out).vals v hv)
        (by rw [HV7.out]; exact takes_apart hF9 Ba.out Bb.out Bc.out Bd.out Be.out Bg.out hBv hf0 hS.1 hS.2.1 hS.2.2.1 hM4.1 hM4.2 hMg.1 KF.out.2.pair)
      have HLow : Hid (∀ x ∈ (V7 ++ vs).filterMap Value.ownBlock, w.heap.size ≤ x) := by
        rw [HV7.out]
        exact takes_low hF9 Ba.out Bb.out Bc.out Bd.out Be.out Bg.out hBv hf0 hS.1 hS.2.1 hS.2.2.1 hM4.1 hM4.2 hMg.1 (Nat.le_of_eq Hf.out.symm)
      clear hF9 hBv hS hM4 hMg hf0
      go_wp2_with fail
      refine EA.mono ?_
      rintro e Y8 ⟨rfl, k1⟩
      have HF : Hid (w.grownBy Y8 none) := Kpt.new HGX.out k1 HLow.out
      clear k1 EA
      go_wp2
      go_ret
      exact ⟨rfl, HF.out⟩
end Go.Proofs.Ytjjgipklhdofhaa
