/-
  PileNames, walked: chapter 15's examples stand.
-/
import Derived.Test.YtjjgipklhdofhaaPlAw
namespace Go.Proofs.Ytjjgipklhdofhaa
open Go.RowKit

theorem shuf_one : shuffled [1, 2, 3, 4, 5] 1 = ([3, 2, 5, 4, 1], 8709371129873690709) := by decide +kernel
theorem shuf_seven : shuffled [7] 9 = ([7], 9) := by decide +kernel
theorem shuf_none : shuffled [] 9 = ([], 9) := by decide +kernel
theorem deal_five : dealP [1, 2, 3, 4, 5] 2 2 = ([[1, 3], [2, 4]], [5], 0) := by decide +kernel
theorem deal_three : dealP [1, 2, 3] 2 2 = ([], [], 2) := by decide +kernel
theorem deal_one : dealP [1] 0 0 = ([], [], 2) := by decide +kernel
theorem deal_many : dealP [] 64 0 = (List.replicate 64 [], [], 0) := by decide +kernel
theorem deal_more : dealP [] 65 0 = ([], [], 2) := by decide +kernel
theorem cut_three : cutP [1, 2, 3] 2 = ([1, 2], [3], 0) := by decide +kernel
theorem cut_four : cutP [1, 2, 3] 4 = ([], [], 2) := by decide +kernel
theorem wo_four : (if (4 : Int) ∈ [4, 5, 4] then [4, 5, 4].erase 4 else []) = ([5, 4] : List Int) := by decide +kernel
theorem wo_six : (if (6 : Int) ∈ [4, 5] then [4, 5].erase 6 else []) = ([] : List Int) := by decide +kernel
theorem row_plain2 {w : World} {base n i : Nat} {a : Option Addr} {c : Nat} {xs : List Value} (h : w.ownsRow base 22 1 (.slice a n c) n xs) (hi : i < n) : ∃ b, a = some ⟨b, 0, none⟩ := by
  rcases h.2 with ⟨e, h0⟩ | ⟨g, cap, cur, e, _⟩
  · omega
  · cases e
    exact ⟨g, rfl⟩
theorem nil_B (W : World) : IntsB W (.slice none 0 0) [] := Or.inl ⟨_, rfl, rfl⟩
set_option maxRecDepth 100000 in
set_option maxHeartbeats 4000000 in
theorem names15 (w : World) : Calls Try.prog 5 #[] w fun e w' => e = .returned (.bool true) ∧ w.grownBy w' none := by
  have HG0 : Hid (w.grownBy w none) := grown_refl _ _
  obtain ⟨U0, hU0⟩ : ∃ U0, U0 = w := ⟨_, rfl⟩
  subst hU0
  go_enter Try.func5, Try.ntmps5
  have C1 := shuf_lit U0 #[.int .i64 1, .int .i64 2, .int .i64 3, .int .i64 4, .int .i64 5] (l := [1, 2, 3, 4, 5]) (n := 5) rfl rfl (s := 1) (by unfold isU; omega) (by omega) shuf_one
  go_wp2_with fail
  refine C1.mono ?_
  rintro e U1 ⟨l, rfl, o_l, g1⟩
  obtain ⟨la, lc, rfl⟩ := own_form o_l
  have Hl : Hid (U1.ownsRow U0.heap.size 3 1 (.slice la 5 lc) 5 (ints [3, 2, 5, 4, 1])) := o_l
  clear o_l
  have HS1 : Hid (U0.grownBy U1 none) := g1
  have HG1 : Hid (U0.grownBy U1 none) := grown_trans HG0.out g1
  clear C1 g1 HG0
  have C2 := shuf_lit U1 #[.int .i64 7] (l := [7]) (n := 1) rfl rfl (s := 9) (by unfold isU; omega) (by omega) shuf_seven
  go_wp2_with fail
  refine C2.mono ?_
  rintro e U2 ⟨m, rfl, o_m, g1⟩
  obtain ⟨ma, mc, rfl⟩ := own_form o_m
  have Hm : Hid (U2.ownsRow U1.heap.size 3 1 (.slice ma 1 mc) 1 (ints [7])) := o_m
  clear o_m
  have HS2 : Hid (U1.grownBy U2 none) := g1
  have HG2 : Hid (U0.grownBy U2 none) := grown_trans HG1.out g1
  clear C2 g1 HG1
  have CN := pshuf_any (.slice none 0 0) [] 9 U2 (nil_B U2).a (by decide) (by unfold isU; omega)
  rw [shuf_none] at CN
  have C3 := CN
  go_wp2_with fail
  refine C3.mono ?_
  rintro e U3 ⟨n, rfl, o_n, g1⟩
  obtain ⟨na, nc, rfl⟩ := own_form o_n
  have Hn : Hid (U3.ownsRow U2.heap.size 3 1 (.slice na 0 nc) 0 (ints [])) := o_n
  clear o_n
  have HS3 : Hid (U2.grownBy U3 none) := g1
  have HG3 : Hid (U0.grownBy U3 none) := grown_trans HG2.out g1
  clear C3 g1 HG2
  clear CN
  have C4 := same_lit #[.int .i64 3, .int .i64 2, .int .i64 5, .int .i64 4, .int .i64 1] rfl (own_keepN Hl.out (grown_trans HS2.out HS3.out)) rfl
  go_wp2_with fail
  refine C4.mono ?_
  rintro e U4 ⟨rfl, g1⟩
  have HS4 : Hid (U3.grownBy U4 none) := g1
  have HG4 : Hid (U0.grownBy U4 none) := grown_trans HG3.out g1
  clear C4 g1 HG3
  have C5 := same_lit #[.int .i64 7] rfl (own_keepN Hm.out (grown_trans HS3.out HS4.out)) rfl
  go_wp2_with fail
  refine C5.mono ?_
  rintro e U5 ⟨rfl, g1⟩
  have HS5 : Hid (U4.grownBy U5 none) := g1
  have HG5 : Hid (U0.grownBy U5 none) := grown_trans HG4.out g1
  clear C5 g1 HG4
  have C6 := draw_lit U5 #[.int .i64 4, .int .i64 5, .int .i64 6] (l := [4, 5, 6]) (n := 3) rfl rfl (by omega)
  go_wp2_with fail
  refine C6.mono ?_
  rintro e U6 ⟨r, rfl, o_r, g1⟩
  obtain ⟨ra, rc, rfl⟩ := own_form o_r
  have Hr : Hid (U6.ownsRow U5.heap.size 3 1 (.slice ra 2 rc) 2 (ints [5, 6])) := o_r
  clear o_r
  have HS6 : Hid (U5.grownBy U6 none) := g1
  have HG6 : Hid (U0.grownBy U6 none) := grown_trans HG5.out g1
  clear C6 g1 HG5
  have C7 := pdraw_any (.slice none 0 0) [] U6 (nil_B U6) (by decide)
  go_wp2_with fail
  refine C7.mono ?_
  rintro e U7 ⟨y, rfl, o_y, g1⟩
  obtain ⟨ya, yc, rfl⟩ := own_form o_y
  have Hy : Hid (U7.ownsRow U6.heap.size 3 1 (.slice ya 0 yc) 0 (ints [])) := o_y
  clear o_y
  have HS7 : Hid (U6.grownBy U7 none) := g1
  have HG7 : Hid (U0.grownBy U7 none) := grown_trans HG6.out g1
  clear C7 g1 HG6
  have C8 := wo_lit U7 #[.int .i64 4, .int .i64 5, .int .i64 4] (l := [4, 5, 4]) (n := 3) (x := 4) (b := true) rfl rfl (by omega) (by decide) wo_four
  go_wp2_with fail
  refine C8.mono ?_
  rintro e U8 ⟨a, rfl, o_a, g1⟩
  obtain ⟨aa, ac, rfl⟩ := own_form o_a
  have Ha : Hid (U8.ownsRow U7.heap.size 3 1 (.slice aa 2 ac) 2 (ints [5, 4])) := o_a
  clear o_a
  have HS8 : Hid (U7.grownBy U8 none) := g1
  have HG8 : Hid (U0.grownBy U8 none) := grown_trans HG7.out g1
  clear C8 g1 HG7
  have C9 := wo_lit U8 #[.int .i64 4, .int .i64 5] (l := [4, 5]) (n := 2) (x := 6) (b := false) rfl rfl (by omega) (by decide) wo_six
  go_wp2_with fail
  refine C9.mono ?_
  rintro e U9 ⟨b, rfl, o_b, g1⟩
  obtain ⟨ba, bc, rfl⟩ := own_form o_b
  have Hb : Hid (U9.ownsRow U8.heap.size 3 1 (.slice ba 0 bc) 0 (ints [])) := o_b
  clear o_b
  have HS9 : Hid (U8.grownBy U9 none) := g1
  have HG9 : Hid (U0.grownBy U9 none) := grown_trans HG8.out g1
  clear C9 g1 HG8
  have C10 := cut_lit U9 #[.int .i64 1, .int .i64 2, .int .i64 3] (l := [1, 2, 3]) (n := 3) (k := 2) rfl rfl (by omega) cut_three
  go_wp2_with fail
  refine C10.mono ?_
  rintro e U10 ⟨c, d, rfl, o_c, o_d, g1⟩
  obtain ⟨ca, cc, rfl⟩ := own_form o_c
  have Hc : Hid (U10.ownsRow U9.heap.size 3 1 (.slice ca 2 cc) 2 (ints [1, 2])) := o_c
  clear o_c
  obtain ⟨da, dc, rfl⟩ := own_form o_d
  have Hd : Hid (U10.ownsRow U9.heap.size 3 1 (.slice da 1 dc) 1 (ints [3])) := o_d
  clear o_d
  have HS10 : Hid (U9.grownBy U10 none) := g1
  have HG10 : Hid (U0.grownBy U10 none) := grown_trans HG9.out g1
  clear C10 g1 HG9
  have C11 := cut_lit U10 #[.int .i64 1, .int .i64 2, .int .i64 3] (l := [1, 2, 3]) (n := 3) (k := 4) rfl rfl (by omega) cut_four
  go_wp2_with fail
  refine C11.mono ?_
  rintro e U11 ⟨c9, d9, rfl, o_p, o_q, g1⟩
  clear o_p o_q
  have HS11 : Hid (U10.grownBy U11 none) := g1
  have HG11 : Hid (U0.grownBy U11 none) := grown_trans HG10.out g1
  clear C11 g1 HG10
  have C12 := same_lit #[.int .i64 5, .int .i64 6] rfl (own_keepN Hr.out (grown_trans (grown_trans (grown_trans (grown_trans HS7.out HS8.out) HS9.out) HS10.out) HS11.out)) rfl
  go_wp2_with fail
  refine C12.mono ?_
  rintro e U12 ⟨rfl, g1⟩
  have HS12 : Hid (U11.grownBy U12 none) := g1
  have HG12 : Hid (U0.grownBy U12 none) := grown_trans HG11.out g1
  clear C12 g1 HG11
  have C13 := same_lit #[.int .i64 5, .int .i64 4] rfl (own_keepN Ha.out (grown_trans (grown_trans (grown_trans HS9.out HS10.out) HS11.out) HS12.out)) rfl
  go_wp2_with fail
  refine C13.mono ?_
  rintro e U13 ⟨rfl, g1⟩
  have HS13 : Hid (U12.grownBy U13 none) := g1
  have HG13 : Hid (U0.grownBy U13 none) := grown_trans HG12.out g1
  clear C13 g1 HG12
  have C14 := same_lit #[.int .i64 1, .int .i64 2] rfl (own_keepN Hc.out (grown_trans (grown_trans HS11.out HS12.out) HS13.out)) rfl
  go_wp2_with fail
  refine C14.mono ?_
  rintro e U14 ⟨rfl, g1⟩
  have HS14 : Hid (U13.grownBy U14 none) := g1
  have HG14 : Hid (U0.grownBy U14 none) := grown_trans HG13.out g1
  clear C14 g1 HG13
  have C15 := same_lit #[.int .i64 3] rfl (own_keepN Hd.out (grown_trans (grown_trans (grown_trans HS11.out HS12.out) HS13.out) HS14.out)) rfl
  go_wp2_with fail
  refine C15.mono ?_
  rintro e U15 ⟨rfl, g1⟩
  have HS15 : Hid (U14.grownBy U15 none) := g1
  have HG15 : Hid (U0.grownBy U15 none) := grown_trans HG14.out g1
  clear C15 g1 HG14
  have C16 := deal_lit U15 #[.int .i64 1, .int .i64 2, .int .i64 3, .int .i64 4, .int .i64 5] (l := [1, 2, 3, 4, 5]) (n := 5) (h := 2) (k := 2) rfl rfl (by omega) deal_five
  go_wp2_with fail
  refine C16.mono ?_
  rintro e U16 ⟨f, t, rfl, ⟨vs, mf, bf, o_f, hh⟩, o_t, g1⟩
  obtain ⟨ta, tc, rfl⟩ := own_form o_t
  have Ht : Hid (U16.ownsRow U15.heap.size 3 1 (.slice ta 1 tc) 1 (ints [5])) := o_t
  clear o_t
  obtain ⟨fa, fc, rfl⟩ := own22_form o_f
  have Hf : Hid (U16.ownsRow bf 22 1 (.slice fa 2 fc) 2 vs ∧ HandsAt U16 bf vs [[1, 3], [2, 4]] mf) := ⟨o_f, hh⟩
  clear o_f hh
  have HS16 : Hid (U15.grownBy U16 none) := g1
  have HG16 : Hid (U0.grownBy U16 none) := grown_trans HG15.out g1
  clear C16 g1 HG15
  have C17 := deal_lit U16 #[.int .i64 1, .int .i64 2, .int .i64 3] (l := [1, 2, 3]) (n := 3) (h := 2) (k := 2) rfl rfl (by omega) deal_three
  go_wp2_with fail
  refine C17.mono ?_
  rintro e U17 ⟨f1, t1, rfl, h1, h2, g1⟩
  clear h1 h2
  have HS17 : Hid (U16.grownBy U17 none) := g1
  have HG17 : Hid (U0.grownBy U17 none) := grown_trans HG16.out g1
  clear C17 g1 HG16
  have C18 := deal_lit U17 #[.int .i64 1] (l := [1]) (n := 1) (h := 0) (k := 0) rfl rfl (by omega) deal_one
  go_wp2_with fail
  refine C18.mono ?_
  rintro e U18 ⟨f2, t2, rfl, h1, h2, g1⟩
  clear h1 h2
  have HS18 : Hid (U17.grownBy U18 none) := g1
  have HG18 : Hid (U0.grownBy U18 none) := grown_trans HG17.out g1
  clear C18 g1 HG17
  have CN : Calls Try.prog 20 #[.slice none 0 0, .int .i64 64, .int .i64 0] U18 fun e w' => ∃ u v, e = .returned (.tuple #[u, v, .int .i64 0]) ∧ (∃ vs base, w'.ownsRow base 22 1 u 64 vs) ∧ U18.grownBy w' none := by
    have := pdeal_any (.slice none 0 0) [] 64 0 U18 (nil_B U18) (by decide)
    unfold DePost at this
    rw [deal_many] at this
    refine this.mono ?_
    rintro e w' ⟨u, v, h1, ⟨vs, m, h4, _⟩, h3⟩
    exact ⟨u, v, h1, ⟨vs, _, h4⟩, h3⟩
  have C19 := CN
  go_wp2_with fail
  refine C19.mono ?_
  rintro e U19 ⟨f3, t3, rfl, ⟨vs3, b3, o3⟩, g1⟩
  obtain ⟨ga, gc, rfl⟩ := own22_form o3
  clear o3
  have HS19 : Hid (U18.grownBy U19 none) := g1
  have HG19 : Hid (U0.grownBy U19 none) := grown_trans HG18.out g1
  clear C19 g1 HG18
  clear CN
  have CN : Calls Try.prog 20 #[.slice none 0 0, .int .i64 65, .int .i64 0] U19 fun e w' => ∃ u v, e = .returned (.tuple #[u, v, .int .i64 2]) ∧ U19.grownBy w' none := by
    have := pdeal_any (.slice none 0 0) [] 65 0 U19 (nil_B U19) (by decide)
    unfold DePost at this
    rw [deal_more] at this
    refine this.mono ?_
    rintro e w' ⟨u, v, h1, _, h3⟩
    exact ⟨u, v, h1, h3⟩
  have C20 := CN
  go_wp2_with fail
  refine C20.mono ?_
  rintro e U20 ⟨f4, t4, rfl, g1⟩
  have HS20 : Hid (U19.grownBy U20 none) := g1
  have HG20 : Hid (U0.grownBy U20 none) := grown_trans HG19.out g1
  clear C20 g1 HG19
  clear CN
  have GF : Hid (U16.grownBy U20 none) := (grown_trans (grown_trans (grown_trans HS17.out HS18.out) HS19.out) HS20.out)
  obtain ⟨fb, rfl⟩ := row_plain2 Hf.out.1 (show 0 < 2 by omega)
  obtain ⟨v0, l0, hv0, hl0, ok0⟩ := (Hf.out.2.keep GF.out).at (i := 0) (by decide)
  obtain ⟨v1, l1, hv1, hl1, ok1⟩ := (Hf.out.2.keep GF.out).at (i := 1) (by decide)
  have e0 : l0 = [1, 3] := by simpa using hl0.symm
  have e1 : l1 = [2, 4] := by simpa using hl1.symm
  rw [e0] at ok0
  rw [e1] at ok1
  obtain ⟨v0a, v0c, rfl⟩ := own_form ok0
  obtain ⟨v1a, v1c, rfl⟩ := own_form ok1
  have c0 : U20.cell? ⟨fb, 0, none⟩ = some (.slice v0a 2 v0c) := by rw [World.ownsRow.cellAt (own22_keep Hf.out.1 GF.out) 0 (by omega)]; exact hv0
  have H1c : Hid (U20.cell? ⟨fb, 1, none⟩ = some (.slice v1a 2 v1c)) := by show U20.cell? ⟨fb, 1, none⟩ = _; rw [World.ownsRow.cellAt (own22_keep Hf.out.1 GF.out) 1 (by omega)]; exact hv1
  have Hok1 : Hid (U20.ownsRow bf 3 1 (.slice v1a 2 v1c) 2 (ints [2, 4])) := ok1
  have Cv := same_lit #[.int .i64 1, .int .i64 3] rfl (l := [1, 3]) (W := U20) ok0 rfl
  clear ok0 ok1 hv0 hv1 hl0 hl1 e0 e1
  have C21 := Cv
  go_wp2_with fail
  refine C21.mono ?_
  rintro e U21 ⟨rfl, g1⟩
  have HS21 : Hid (U20.grownBy U21 none) := g1
  have HG21 : Hid (U0.grownBy U21 none) := grown_trans HG20.out g1
  clear C21 g1 HG20
  clear Cv c0
  have c1 : U21.cell? ⟨fb, 1, none⟩ = some (.slice v1a 2 v1c) := HS21.out.cell H1c.out (by simp)
  have Cv := same_lit #[.int .i64 2, .int .i64 4] rfl (l := [2, 4]) (W := U21) (own_keepN Hok1.out HS21.out) rfl
  have C22 := Cv
  go_wp2_with fail
  refine C22.mono ?_
  rintro e U22 ⟨rfl, g1⟩
  have HS22 : Hid (U21.grownBy U22 none) := g1
  have HG22 : Hid (U0.grownBy U22 none) := grown_trans HG21.out g1
  clear C22 g1 HG21
  clear Cv c1
  have C23 := same_lit #[.int .i64 5] rfl (own_keepN Ht.out (grown_trans (grown_trans (grown_trans (grown_trans (grown_trans HS17.out HS18.out) HS19.out) HS20.out) HS21.out) HS22.out)) rfl
  go_wp2_with fail
  refine C23.mono ?_
  rintro e U23 ⟨rfl, g1⟩
  have HS23 : Hid (U22.grownBy U23 none) := g1
  have HG23 : Hid (U0.grownBy U23 none) := grown_trans HG22.out g1
  clear C23 g1 HG22
  have C24 := awake_any U23
  go_wp2_with fail
  refine C24.mono ?_
  rintro e U24 ⟨rfl, g1⟩
  have HS24 : Hid (U23.grownBy U24 none) := g1
  have HG24 : Hid (U0.grownBy U24 none) := grown_trans HG23.out g1
  clear C24 g1 HG23
  go_wp2
  go_ret
  exact ⟨rfl, HG24.out⟩
end Go.Proofs.Ytjjgipklhdofhaa
