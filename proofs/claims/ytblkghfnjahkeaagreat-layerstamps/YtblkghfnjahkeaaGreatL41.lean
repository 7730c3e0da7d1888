/-
  Layers: what the ways of layer ask of a book, things and features.
  Layers: what is answered of no book.
  The book of chapter 18's examples.
  Layers: the book of the chapter's examples.
-/
import Derived.Test.YtblkghfnjahkeaaGreatL40
import Derived.Test.YtblkghfnjahkeaaGreatL28
namespace Go.Proofs.YtblkghfnjahkeaaGreat
open Go.RowKit Go.Shelf

theorem few_at {ok : Nat → Prop} {w : World} {b : Nat} {es : List Ent} {p : Pl} (B : Book ok w b es p) (c : Int) : (atC p es c).2.length ≤ 4 := by
  unfold atC
  split
  · split
    · rename_i e he
      exact B.parts e (List.mem_of_getElem? he)
    · exact Nat.zero_le _
  · exact Nat.zero_le _
theorem LBook.of {ok : Nat → Prop} {w : World} {b : Nat} {es : List Ent} {p : Pl} (B : Book ok w b es p) : LBook w (.pointer (some ⟨b, 0, none⟩)) (es.length : Int) (atC p es) := by
  refine ⟨fun X g => ?_, fun X t g => ⟨_, tcard_book ok b es p t X (B.keep g)⟩, few_at B⟩
  exact (len_yes b es.length (B.keep g).lies.len p X (B.keep g).lies.flags).mono fun e w' q => ⟨q.1, q.2.1⟩
theorem LIn.of {ok : Nat → Prop} {w : World} {b : Nat} {es : List Ent} {p : Pl} {vt vf : Value} {ts : List Th} {fs : List Fe} (B : Book ok w b es p) (T : thR.At w vt ts) (F : feR.At w vf fs) (hf : fs.length ≤ 4096) : LIn w (.pointer (some ⟨b, 0, none⟩)) vt vf (refE p ts.length) (es.length : Int) (atC p es) ts fs := by
  obtain ⟨q, c, rfl⟩ := T.form
  refine ⟨fun X g => lrefusal_book ok b es p q ts.length c X (B.keep g), fun h => ⟨LBook.of B, ?_⟩, T, F, fun _ => hf⟩
  unfold refE at h
  split at h
  · cases h
  · omega
theorem LIn.no {w : World} {v vt vf : Value} {ts : List Th} {fs : List Fe} (B : NoBk w v) (T : thR.At w vt ts) (F : feR.At w vf fs) : LIn w v vt vf 1 0 (fun _ => (Hd.none, [])) ts fs := by
  obtain ⟨q, c, rfl⟩ := T.form
  exact ⟨fun X g => lrefusal_no v q ts.length c X (B.keep g), fun h => absurd h (by decide), T, F, fun h => absurd h (by decide)⟩
end Go.Proofs.YtblkghfnjahkeaaGreat
namespace Go.Proofs.YtblkghfnjahkeaaGreat
open Go.RowKit Go.Shelf

theorem bgE_no {r n : Int} {cd : Int → Hd × List Pt} {ts : List Th} {fs : List Fe} {k : Int} (h : r ≠ 0) : bgE r n cd ts fs k = r := by
  unfold bgE
  rw [lkE_no h, if_neg h]
theorem about_no {w : World} {n : Int} {cd : Int → Hd × List Pt} {ts : List Th} {fs : List Fe} {s : Sd} {e : Ending} {w' : World} (h : AboutPost w 1 n cd ts fs s e w') : ∃ p c, e = .returned (.tuple #[.slice p 0 c, .int .i64 1]) ∧ w.grownBy w' none := by
  obtain ⟨p, m, c, he, g, h0, -⟩ := h
  rw [lkE_no (by decide)] at he h0
  obtain ⟨rfl, -⟩ := h0 (by decide)
  exact ⟨p, c, he, g⟩
theorem apply_no {w : World} {n : Int} {cd : Int → Hd × List Pt} {ts : List Th} {fs : List Fe} {s : Sd} {e : Ending} {w' : World} (h : ApplyPost w 1 n cd ts fs s e w') : ∃ p c, e = .returned (.tuple #[.slice p 0 c, .int .i64 1]) ∧ w.grownBy w' none := by
  obtain ⟨p, m, c, he, g, h0, -⟩ := h
  rw [lkE_no (by decide)] at he h0
  obtain ⟨rfl, -⟩ := h0 (by decide)
  exact ⟨p, c, he, g⟩
theorem depends_no {w : World} {n : Int} {cd : Int → Hd × List Pt} {ts : List Th} {fs : List Fe} {s o : Sd} {e : Ending} {w' : World} (h : DependsPost w 1 n cd ts fs s o e w') : e = .returned (.tuple #[.bool false, .int .i64 1]) ∧ w.grownBy w' none := by
  obtain ⟨b, he, g, h0, -⟩ := h
  rw [lkE_no (by decide)] at he h0
  obtain rfl := h0 (by decide)
  exact ⟨he, g⟩
theorem next_no {w : World} {n : Int} {cd : Int → Hd × List Pt} {ts : List Th} {fs : List Fe} {S : List Sd} {e : Ending} {w' : World} (h : NextPost w 1 n cd ts fs S e w') : e = .returned (.tuple #[.int .i64 0, .int .i64 1]) ∧ w.grownBy w' none := by
  obtain ⟨b, he, g, h0, -⟩ := h
  rw [lkE_no (by decide)] at he h0
  obtain rfl := h0 (by decide)
  exact ⟨he, g⟩
theorem effects_no {w : World} {n : Int} {cd : Int → Hd × List Pt} {ts : List Th} {fs : List Fe} {k : Int} {e : Ending} {w' : World} (h : EffectsPost w 1 n cd ts fs k e w') : ∃ p c, e = .returned (.tuple #[.slice p 0 c, .int .i64 1]) ∧ w.grownBy w' none := by
  obtain ⟨p, m, c, he, g, h0, -⟩ := h
  rw [bgE_no (by decide)] at he h0
  obtain ⟨rfl, -⟩ := h0 (by decide)
  exact ⟨p, c, he, g⟩
theorem all_no {w : World} {n : Int} {cd : Int → Hd × List Pt} {ts : List Th} {fs : List Fe} {k : Int} {e : Ending} {w' : World} (h : AllPost w 1 n cd ts fs k e w') : ∃ p c p' c', e = .returned (.tuple #[.slice p 0 c, .slice p' 0 c', .int .i64 1]) ∧ w.grownBy w' none := by
  obtain ⟨p, m, c, p', m', c', he, g, h0, -⟩ := h
  rw [bgE_no (by decide)] at he h0
  obtain ⟨rfl, -, rfl, -⟩ := h0 (by decide)
  exact ⟨p, c, p', c', he, g⟩
def TabB (w : World) (g : Nat) (vt vf : Value) : Prop := w.heap[g]? = some (.cells #[vt, vf] 25 (0, 0))
theorem tab_box {w : World} {g : Nat} {vt vf : Value} (h : TabB w g vt vf) : w.cell? ⟨g, 0, none⟩ = some vt ∧ w.cell? ⟨g, 1, none⟩ = some vf := ⟨(block_cell h 0).trans rfl, (block_cell h 1).trans rfl⟩
theorem nil_sd (w : World) : sdR.At w (.slice none 0 0) [] := ⟨none, 0, rfl, Nat.zero_le _, fun h => absurd h (Nat.lt_irrefl 0)⟩
/-- What stands while nothing is asked of no book. -/
structure NnS (w : World) (b0 b1 : Nat) (bv vt vf : Value) (s : Sd) (ts : List Th) (fs : List Fe) : Prop where
  inn : LIn w bv vt vf 1 0 (fun _ => (Hd.none, [])) ts fs
  tab : TabB w b0 vt vf
  std : SdB w b1 s
theorem NnS.keep {w w' : World} {b0 b1 : Nat} {bv vt vf : Value} {s : Sd} {ts : List Th} {fs : List Fe} (h : NnS w b0 b1 bv vt vf s ts fs) (g : w.grownBy w' none) : NnS w' b0 b1 bv vt vf s ts fs := ⟨h.inn.keep g, grown_keep g h.tab (by simp), grown_keep g h.std (by simp)⟩
set_option maxRecDepth 100000 in
set_option maxHeartbeats 4000000 in
theorem lnone_any (bv vt vf : Value) (s : Sd) (k : Int) (ts : List Th) (fs : List Fe) (w : World) (B : NoBk w bv) (T : thR.At w vt ts) (F : feR.At w vf fs) : Calls Tryz.prog 9 #[bv, .agg #[vt, vf], sdv s, .int .i64 k] w fun e w' => e = .returned (.bool true) ∧ w.grownBy w' none := by
  obtain ⟨pt, ct, rfl⟩ := T.form
  obtain ⟨pf, cf, rfl⟩ := F.form
  obtain ⟨W, hW⟩ : ∃ W, W = (w.alloc (.cells #[.slice pt ts.length ct, .slice pf fs.length cf] 25)).alloc (.cells #[.int .i64 s.th, .int .i64 s.pl, .int .u8 s.wh.wn, .int .u8 s.wh.vb, .int .u8 s.wh.wm, .int .i64 s.wh.ct, .int .u8 s.wh.su, .int .u8 s.wh.tr, .int .u8 s.wh.mr, .string s.wh.nm] 35) := ⟨_, rfl⟩
  have HG : Hid (w.grownBy W none) := by rw [hW]; exact grown_push (World.grownBy_alloc _ _ none) _
  have H0 : Hid (NnS W w.heap.size (w.heap.size + 1) bv (.slice pt ts.length ct) (.slice pf fs.length cf) s ts fs) := ⟨(LIn.no B T F).keep HG.out, by rw [hW]; exact grown_keep (World.grownBy_alloc _ _ none) (alloc_at w _ _) (by simp), by rw [hW]; exact alloc2_b _ _ _ _⟩
  unfold sdv
  clear B T F
  go_enter Tryz.func9, Tryz.ntmps9
  go_upto_region 1 with fail
  rw [← hW]
  obtain ⟨b0, hb0⟩ : ∃ b0, b0 = w.heap.size := ⟨_, rfl⟩
  obtain ⟨b1, hb1⟩ : ∃ b1, b1 = b0 + 1 := ⟨_, rfl⟩
  rw [← hb0, ← hb1] at H0 ⊢
  clear hW hb0 hb1
  have C1 := lAbout_any bv _ _ 1 0 _ ts fs s W H0.out.inn
  unfold sdv at C1
  obtain ⟨t0, t1⟩ := tab_box H0.out.tab
  obtain ⟨s0, s1, s2, s3, s4, s5, s6, s7, s8, s9⟩ := sd_box H0.out.std
  go_wp2_with fail
  refine (C1.mono fun e w' q => about_no q).mono ?_
  rintro e1 w1 ⟨p1, c1, rfl, g1⟩
  have H1 : Hid (NnS w1 b0 b1 bv (.slice pt ts.length ct) (.slice pf fs.length cf) s ts fs) := H0.out.keep g1
  have HG1 : Hid (w.grownBy w1 none) := grown_trans HG.out g1
  clear C1 g1 H0 t0 t1 s0 s1 s2 s3 s4 s5 s6 s7 s8 s9
  have C2 := lApply_any bv _ _ 1 0 _ ts fs s w1 H1.out.inn
  unfold sdv at C2
  obtain ⟨t0, t1⟩ := tab_box H1.out.tab
  obtain ⟨s0, s1, s2, s3, s4, s5, s6, s7, s8, s9⟩ := sd_box H1.out.std
  go_wp2_with fail
  refine (C2.mono fun e w' q => apply_no q).mono ?_
  rintro e2 w2 ⟨p2, c2, rfl, g2⟩
  have H2 : Hid (NnS w2 b0 b1 bv (.slice pt ts.length ct) (.slice pf fs.length cf) s ts fs) := H1.out.keep g2
  have HG2 : Hid (w.grownBy w2 none) := grown_trans HG1.out g2
  clear C2 g2 H1 t0 t1 s0 s1 s2 s3 s4 s5 s6 s7 s8 s9
  have C3 := lDepends_any bv _ _ 1 0 _ ts fs s s w2 H2.out.inn
  unfold sdv at C3
  obtain ⟨t0, t1⟩ := tab_box H2.out.tab
  obtain ⟨s0, s1, s2, s3, s4, s5, s6, s7, s8, s9⟩ := sd_box H2.out.std
  go_wp2_with fail
  refine (C3.mono fun e w' q => depends_no q).mono ?_
  rintro e3 w3 ⟨rfl, g3⟩
  have H3 : Hid (NnS w3 b0 b1 bv (.slice pt ts.length ct) (.slice pf fs.length cf) s ts fs) := H2.out.keep g3
  have HG3 : Hid (w.grownBy w3 none) := grown_trans HG2.out g3
  clear C3 g3 H2 t0 t1 s0 s1 s2 s3 s4 s5 s6 s7 s8 s9
  have C4 := lNext_any bv _ _ (.slice none 0 0) 1 0 _ ts fs [] w3 H3.out.inn (nil_sd _) (by simp)
  obtain ⟨t0, t1⟩ := tab_box H3.out.tab
  go_wp2_with fail
  refine (C4.mono fun e w' q => next_no q).mono ?_
  rintro e4 w4 ⟨rfl, g4⟩
  have H4 : Hid (NnS w4 b0 b1 bv (.slice pt ts.length ct) (.slice pf fs.length cf) s ts fs) := H3.out.keep g4
  have HG4 : Hid (w.grownBy w4 none) := grown_trans HG3.out g4
  clear C4 g4 H3 t0 t1
  have C5 := lEffects_any bv _ _ 1 0 _ ts fs k w4 H4.out.inn
  obtain ⟨t0, t1⟩ := tab_box H4.out.tab
  go_wp2_with fail
  refine (C5.mono fun e w' q => effects_no q).mono ?_
  rintro e5 w5 ⟨p5, c5, rfl, g5⟩
  have H5 : Hid (NnS w5 b0 b1 bv (.slice pt ts.length ct) (.slice pf fs.length cf) s ts fs) := H4.out.keep g5
  have HG5 : Hid (w.grownBy w5 none) := grown_trans HG4.out g5
  clear C5 g5 H4 t0 t1
  have C6 := lAll_any bv _ _ 1 0 _ ts fs k w5 H5.out.inn
  obtain ⟨t0, t1⟩ := tab_box H5.out.tab
  go_wp2_with fail
  refine (C6.mono fun e w' q => all_no q).mono ?_
  rintro e6 w6 ⟨p6, c6, q6, d6, rfl, g6⟩
  have H6 : Hid (NnS w6 b0 b1 bv (.slice pt ts.length ct) (.slice pf fs.length cf) s ts fs) := H5.out.keep g6
  have HG6 : Hid (w.grownBy w6 none) := grown_trans HG5.out g6
  clear C6 g6 H5 t0 t1
  go_wp2_with fail
  go_ret
  exact ⟨rfl, HG6.out⟩
end Go.Proofs.YtblkghfnjahkeaaGreat
namespace Go.Proofs.YtblkghfnjahkeaaGreat
open Go.RowKit

def tgR : Hd := ⟨⟨#[114, 111, 99, 107]⟩, 2, 1, 1, 2, 3, 2, false⟩
def tgF : Hd := ⟨⟨#[102, 111, 103]⟩, 1, 2, 0, 0, 0, 0, false⟩
def tgU : Mk := ⟨1, ⟨#[117, 112]⟩, 1, 1⟩
def tgD : Mk := ⟨2, ⟨#[100, 111, 119, 110]⟩, -1, -1⟩
def tgES (u v : Value) : List Ent := [⟨tgF, u, []⟩, ⟨tgR, v, []⟩]
def tgP1 : Pl := { plNew with mks := plNew.mks.set 1 tgU }
def tgP2 : Pl := { tgP1 with mks := tgP1.mks.set 2 tgD }
def tgP3 : Pl := { tgP2 with shut := true }
theorem tx_rock : caE plNew [] (tgR.with []) = 0 := by decide +kernel
theorem tx_fog (v : Value) : caE plNew [⟨tgR, v, []⟩] (tgF.with []) = 0 := by
  show (if plNew.shut = true then (7 : Int) else if ¬ cchk (tgF.with []) = 0 then cchk (tgF.with []) else if 0 ≤ pos [tgR.nm] tgF.nm then 5 else if (1 : Nat) = 64 then 14 else 0) = 0
  decide +kernel
theorem tx_ins (u v : Value) : ins [⟨tgR, v, []⟩] ⟨tgF, u, []⟩ = tgES u v := by
  rw [ins_cons, if_neg (by show ¬ ord tgR tgF < 0; decide +kernel)]
  rfl
theorem tx_up : maE plNew tgU = 0 := by decide +kernel
theorem tx_down : maE tgP1 tgD = 0 := by decide +kernel
theorem tx_upP : maP plNew tgU = tgP1 := if_pos tx_up
theorem tx_downP : maP tgP1 tgD = tgP2 := if_pos tx_down
theorem tx_seal (u v : Value) : sealE tgP2 (tgES u v) = 0 := by
  unfold sealE
  rw [if_neg (by decide)]
  simp [tgES, sealL, callsE]
theorem tx_shut (u v : Value) : sealP tgP2 (tgES u v) = tgP3 := if_pos (tx_seal u v)
def tgOk (b : Nat) (k : Nat) : Prop := b < k
theorem tgP3_mkd : MkD tgP3 := ⟨rfl, fun m hm => by
  simp [tgP3, tgP2, tgP1, plNew, List.set] at hm
  rcases hm with h | h | h | h <;> subst h
  · exact Or.inl rfl
  · exact Or.inr ⟨by decide, by decide⟩
  · exact Or.inr ⟨by decide, by decide⟩
  · exact Or.inl rfl⟩
theorem tx_mo : moM tgP3 1 = tgU ∧ moM tgP3 2 = tgD ∧ moM tgP3 3 = Mk.none ∧ moM tgP3 4 = Mk.none := ⟨rfl, rfl, rfl, rfl⟩
end Go.Proofs.YtblkghfnjahkeaaGreat
namespace Go.Proofs.YtblkghfnjahkeaaGreat
open Go.RowKit Go.Shelf

def exC : Hd := ⟨⟨#[99, 114, 111, 119, 110]⟩, 6, 3, 0, 0, 0, 0, false⟩
def exCp : Pt := ⟨5, 15, 9, 1, 6, 0, 0, ⟨#[]⟩⟩
def exB : Hd := ⟨⟨#[98, 114, 117, 115, 104]⟩, 6, 3, 0, 0, 0, 0, false⟩
def exBp : Pt := ⟨5, 11, 5, 0, 6, 0, 0, ⟨#[]⟩⟩
def exE : Hd := ⟨⟨#[98, 101, 97, 114]⟩, 2, 1, 0, 2, 2, 0, false⟩
def exF : Hd := ⟨⟨#[116, 104, 105, 101, 102]⟩, 5, 1, 0, 1, 1, 0, false⟩
def exFp : Pt := ⟨5, 10, 6, 0, 0, 0, 0, ⟨#[]⟩⟩
theorem ex_caC : caE plNew [] (exC.with [exCp]) = 0 := by
  show (if plNew.shut = true then (7 : Int) else if ¬ cchk (exC.with [exCp]) = 0 then cchk (exC.with [exCp]) else if 0 ≤ pos [] exC.nm then 5 else if (0 : Nat) = 64 then 14 else 0) = 0
  decide +kernel
theorem ex_inC (vC : Value) : ins [] ⟨exC, vC, [exCp]⟩ = [⟨exC, vC, [exCp]⟩] := by
  rfl
theorem ex_caB (vC : Value) : caE plNew [⟨exC, vC, [exCp]⟩] (exB.with [exBp]) = 0 := by
  show (if plNew.shut = true then (7 : Int) else if ¬ cchk (exB.with [exBp]) = 0 then cchk (exB.with [exBp]) else if 0 ≤ pos [exC.nm] exB.nm then 5 else if (1 : Nat) = 64 then 14 else 0) = 0
  decide +kernel
theorem ex_inB (vB vC : Value) : ins [⟨exC, vC, [exCp]⟩] ⟨exB, vB, [exBp]⟩ = [⟨exB, vB, [exBp]⟩, ⟨exC, vC, [exCp]⟩] := by
  rw [ins_cons, if_neg (by show ¬ ord exC exB < 0; decide +kernel)]
theorem ex_caE (vB vC : Value) : caE plNew [⟨exB, vB, [exBp]⟩, ⟨exC, vC, [exCp]⟩] (exE.with []) = 0 := by
  show (if plNew.shut = true then (7 : Int) else if ¬ cchk (exE.with []) = 0 then cchk (exE.with []) else if 0 ≤ pos [exB.nm, exC.nm] exE.nm then 5 else if (2 : Nat) = 64 then 14 else 0) = 0
  decide +kernel
theorem ex_inE (vE vB vC : Value) : ins [⟨exB, vB, [exBp]⟩, ⟨exC, vC, [exCp]⟩] ⟨exE, vE, []⟩ = [⟨exE, vE, []⟩, ⟨exB, vB, [exBp]⟩, ⟨exC, vC, [exCp]⟩] := by
  rw [ins_cons, if_neg (by show ¬ ord exB exE < 0; decide +kernel)]
theorem ex_caF (vE vB vC : Value) : caE plNew [⟨exE, vE, []⟩, ⟨exB, vB, [exBp]⟩, ⟨exC, vC, [exCp]⟩] (exF.with [exFp]) = 0 := by
  show (if plNew.shut = true then (7 : Int) else if ¬ cchk (exF.with [exFp]) = 0 then cchk (exF.with [exFp]) else if 0 ≤ pos [exE.nm, exB.nm, exC.nm] exF.nm then 5 else if (3 : Nat) = 64 then 14 else 0) = 0
  decide +kernel
theorem ex_inF (vE vF vB vC : Value) : ins [⟨exE, vE, []⟩, ⟨exB, vB, [exBp]⟩, ⟨exC, vC, [exCp]⟩] ⟨exF, vF, [exFp]⟩ = [⟨exE, vE, []⟩, ⟨exF, vF, [exFp]⟩, ⟨exB, vB, [exBp]⟩, ⟨exC, vC, [exCp]⟩] := by
  rw [ins_cons, if_pos (by show ord exE exF < 0; decide +kernel)]
  rw [ins_cons, if_neg (by show ¬ ord exB exF < 0; decide +kernel)]
def exES (vE vB vC vF : Value) : List Ent := [⟨exE, vE, []⟩, ⟨exF, vF, [exFp]⟩, ⟨exB, vB, [exBp]⟩, ⟨exC, vC, [exCp]⟩]
def exP : Pl := { plNew with shut := true }
theorem ex_seal (vE vB vC vF : Value) : sealE plNew (exES vE vB vC vF) = 0 := by
  unfold sealE
  rw [if_neg (by decide)]
  simp [exES, sealL, callsE, callE, exBp, exCp, exFp]
theorem ex_shut (vE vB vC vF : Value) : sealP plNew (exES vE vB vC vF) = exP := if_pos (ex_seal vE vB vC vF)
theorem ps_one {W : World} {n : Nat} {p : Pt} (h : W.heap[n]? = some (.cells #[.int .u8 p.wn, .int .u8 p.vb, .int .u8 p.wm, .int .i64 p.ct, .int .u8 p.su, .int .u8 p.tr, .int .u8 p.mr, .string p.nm] 33 (0, 0))) : PsAt W (.slice (some ⟨n, 0, none⟩) 1 1) [p] := by
  refine Or.inr ⟨⟨n, 0, none⟩, 1, rfl, Nat.le_refl _, fun j u hu => ?_⟩
  have hb := block_cell h j
  rw [add_plain', Nat.zero_add, hb]
  have e : pcells [p] = [.int .u8 p.wn, .int .u8 p.vb, .int .u8 p.wm, .int .i64 p.ct, .int .u8 p.su, .int .u8 p.tr, .int .u8 p.mr, .string p.nm] := rfl
  rw [e] at hu
  simpa using hu
theorem cell_blockL {w : World} {g o : Nat} {v : Value} (h : w.cell? ⟨g, o, none⟩ = some v) : g < w.heap.size := by
  by_cases hg : g < w.heap.size
  · exact hg
  · have : w.heap[g]? = none := Array.getElem?_eq_none (by omega)
    simp [World.cell?, this] at h
theorem Good.oldL {ok : Nat → Prop} {w : World} {es : List Ent} (h : Good ok w es) : Good (fun k => ok k ∧ k < w.heap.size) w es := fun e he => by
  obtain ⟨h1, h2⟩ := h e he
  refine ⟨h1, fun g o n c ev hn => ⟨h2 g o n c ev hn, ?_⟩⟩
  obtain ⟨x, y, hf⟩ := h1.form
  rw [hf] at ev
  injection ev with e1 e2 e3
  have h0 : 0 < e.ps.length := by omega
  obtain ⟨g', off, cap, ev', hP⟩ := h1.part h0
  rw [hf] at ev'
  injection ev' with e1' _ _
  rw [e1] at e1'
  injection e1' with e1'
  injection e1' with e1' _ _
  subst e1'
  obtain ⟨p, hp⟩ : ∃ p, e.ps[0]? = some p := ⟨_, List.getElem?_eq_getElem h0⟩
  exact cell_blockL (hP 0 p hp).c0
theorem Book.oldL {ok : Nat → Prop} {w : World} {b : Nat} {es : List Ent} {p : Pl} (h : Book ok w b es p) : Book (fun k => ok k ∧ k < w.heap.size) w b es p := ⟨h.lies, h.good.oldL, h.srt, h.fine, h.may⟩
def exT : List Th := [⟨4, 0, 4, 1, 0, 0, 0, 0, 0, 0, false⟩, ⟨3, 0, 4, 2, 0, 0, 0, 0, 0, 0, false⟩, ⟨1, 0, 4, 3, 0, 0, 0, 0, 0, 0, false⟩, ⟨1, 1, 4, 4, 0, 0, 0, 0, 0, 0, false⟩]
def exFs : List Fe := [⟨0, 6, 0, 0, 0⟩, ⟨0, 6, 0, 0, 0⟩, ⟨0, 2, 0, 2, 2⟩, ⟨1, 2, 0, 2, 2⟩]
/-- What the example's book and table are. -/
structure ExS (w wr : World) (b S nb ns t0 : Nat) (vE vB vC vF vt vf : Value) (T : List Th) (F : List Fe) : Prop where
  bk : Book (fun k => tgOk b k ∧ k < S) wr b (exES vE vB vC vF) exP
  tab : TabB wr nb vt vf
  res : TabB wr t0 (.slice none 0 0) (.slice none 0 0)
  th : thR.Own 86 wr S vt T
  fe : feR.Own 88 wr S vf F
  nm : wr.heap[ns]? = some (.cells #[.string exC.nm, .string exB.nm, .string exE.nm, .string exE.nm] 9 (0, 0))
  gr : w.grownBy wr none
  lie : w.heap.size ≤ t0 ∧ t0 < b ∧ b < S ∧ S ≤ nb ∧ nb < ns
theorem ExS.grow {w wr w' : World} {b S nb ns t0 : Nat} {vE vB vC vF vt vf : Value} {T : List Th} {F : List Fe} (h : ExS w wr b S nb ns t0 vE vB vC vF vt vf T F) (g : wr.grownBy w' none) : ExS w w' b S nb ns t0 vE vB vC vF vt vf T F := ⟨h.bk.keep g, grown_keep g h.tab (by simp), grown_keep g h.res (by simp), h.th.grow g, h.fe.grow g, grown_keep g h.nm (by simp), grown_trans h.gr g, h.lie⟩
theorem blk_setL {w : World} {b i : Nat} {T : TypeId} {cs cs' : Array Value} {u : Value} (h : w.heap[b]? = some (.cells cs T (0, 0))) (e : cs.setIfInBounds i u = cs') : (w.setCell ⟨b, i, none⟩ u).heap[b]? = some (.cells cs' T (0, 0)) := by rw [← e]; exact block_set h i u
theorem ExS.things {w wr w' : World} {b S nb ns t0 : Nat} {vE vB vC vF vt vf vt' : Value} {T T' : List Th} {F : List Fe} (h : ExS w wr b S nb ns t0 vE vB vC vF vt vf T F) (o : thR.Own 86 w' S vt' T') (g : wr.grownBy w' vt.ownBlock) : ExS w (w'.setCell ⟨nb, 0, none⟩ vt') b S nb ns t0 vE vB vC vF vt' vf T' F := by
  obtain ⟨l0, l1, l2, l3, l4⟩ := h.lie
  have hy : ∀ y, vt.ownBlock = some y → S ≤ y := fun y e => (World.ownsRow.lt h.th y e).1
  have b1 := h.bk.keepR g (fun q => by have := hy b q.symm; omega) (fun k hk q => by have := hy k q.symm; omega)
  have t1 : TabB w' nb vt vf := grown_keep g h.tab (own_tag h.th h.tab (by decide))
  have r1 : TabB w' t0 (.slice none 0 0) (.slice none 0 0) := grown_keep g h.res (own_tag h.th h.res (by decide))
  have n1 := grown_keep g h.nm (own_tag h.th h.nm (by decide))
  have g2 := grown_set w' nb 0 vt'
  exact ⟨b1.keepR g2 (fun q => by cases q; omega) (fun k hk q => by cases q; omega), blk_setL t1 rfl, grown_keep g2 r1 (fun q => by cases q; omega), own_tagged o g2 t1 (by decide), own_tagged (own_other h.fe h.th (by decide) g) g2 t1 (by decide), grown_keep g2 n1 (fun q => by cases q; omega), grown_set2 (grown_own h.gr g (fun y e => by have := hy y e; omega)) (by omega) _ _, h.lie⟩
theorem ExS.feats {w wr w' : World} {b S nb ns t0 : Nat} {vE vB vC vF vt vf vf' : Value} {T : List Th} {F F' : List Fe} (h : ExS w wr b S nb ns t0 vE vB vC vF vt vf T F) (o : feR.Own 88 w' S vf' F') (g : wr.grownBy w' vf.ownBlock) : ExS w (w'.setCell ⟨nb, 1, none⟩ vf') b S nb ns t0 vE vB vC vF vt vf' T F' := by
  obtain ⟨l0, l1, l2, l3, l4⟩ := h.lie
  have hy : ∀ y, vf.ownBlock = some y → S ≤ y := fun y e => (World.ownsRow.lt h.fe y e).1
  have b1 := h.bk.keepR g (fun q => by have := hy b q.symm; omega) (fun k hk q => by have := hy k q.symm; omega)
  have t1 : TabB w' nb vt vf := grown_keep g h.tab (own_tag h.fe h.tab (by decide))
  have r1 : TabB w' t0 (.slice none 0 0) (.slice none 0 0) := grown_keep g h.res (own_tag h.fe h.res (by decide))
  have n1 := grown_keep g h.nm (own_tag h.fe h.nm (by decide))
  have g2 := grown_set w' nb 1 vf'
  exact ⟨b1.keepR g2 (fun q => by cases q; omega) (fun k hk q => by cases q; omega), blk_setL t1 rfl, grown_keep g2 r1 (fun q => by cases q; omega), own_tagged (own_other h.th h.fe (by decide) g) g2 t1 (by decide), own_tagged o g2 t1 (by decide), grown_keep g2 n1 (fun q => by cases q; omega), grown_set2 (grown_own h.gr g (fun y e => by have := hy y e; omega)) (by omega) _ _, h.lie⟩
theorem ExS.cellT {w wr : World} {b S nb ns t0 : Nat} {vE vB vC vF vt vf : Value} {T : List Th} {F : List Fe} (h : ExS w wr b S nb ns t0 vE vB vC vF vt vf T F) : ∀ w', wr.grownBy w' vt.ownBlock → w'.cell? ⟨nb, 0, none⟩ = some vt ∧ w'.frozen? ⟨nb, 0, none⟩ = false := fun w' g => by
  have t1 : TabB w' nb vt vf := grown_keep g h.tab (own_tag h.th h.tab (by decide))
  exact ⟨(tab_box t1).1, block_free t1 0⟩
theorem ExS.cellF {w wr : World} {b S nb ns t0 : Nat} {vE vB vC vF vt vf : Value} {T : List Th} {F : List Fe} (h : ExS w wr b S nb ns t0 vE vB vC vF vt vf T F) : ∀ w', wr.grownBy w' vf.ownBlock → w'.cell? ⟨nb, 1, none⟩ = some vf ∧ w'.frozen? ⟨nb, 1, none⟩ = false := fun w' g => by
  have t1 : TabB w' nb vt vf := grown_keep g h.tab (own_tag h.fe h.tab (by decide))
  exact ⟨(tab_box t1).2, block_free t1 1⟩
/-- What comes of the example. -/
structure ExR (w wr : World) (b S : Nat) (vE vB vC vF vt vf : Value) : Prop where
  bk : Book (fun k => tgOk b k ∧ k < S) wr b (exES vE vB vC vF) exP
  th : thR.Own 86 wr S vt exT
  fe : feR.Own 88 wr S vf exFs
  gr : w.grownBy wr none
  lie : w.heap.size < b ∧ b < S
theorem ExS.done {w wr : World} {b S nb ns t0 : Nat} {vE vB vC vF vt vf : Value} (h : ExS w wr b S nb ns t0 vE vB vC vF vt vf exT exFs) : ExR w ((wr.setCell ⟨t0, 0, none⟩ vt).setCell ⟨t0, 1, none⟩ vf).drew b S vE vB vC vF vt vf ∧ TabB ((wr.setCell ⟨t0, 0, none⟩ vt).setCell ⟨t0, 1, none⟩ vf).drew t0 vt vf := by
  obtain ⟨l0, l1, l2, l3, l4⟩ := h.lie
  have g1 := grown_set wr t0 0 vt
  have r1 : TabB (wr.setCell ⟨t0, 0, none⟩ vt) t0 vt (.slice none 0 0) := blk_setL h.res rfl
  have g2 := grown_set (wr.setCell ⟨t0, 0, none⟩ vt) t0 1 vf
  have r2 : TabB ((wr.setCell ⟨t0, 0, none⟩ vt).setCell ⟨t0, 1, none⟩ vf) t0 vt vf := blk_setL r1 rfl
  have hb : some b ≠ some t0 := fun q => by cases q; omega
  have hk : ∀ k, tgOk b k ∧ k < S → some k ≠ some t0 := fun k hk q => by cases q; have h1 : b < t0 := hk.1; omega
  have b2 := (h.bk.keepR g1 hb hk).keepR g2 hb hk
  have o1 := own_tagged (own_tagged h.th g1 h.res (by decide)) g2 r1 (by decide)
  have o2 := own_tagged (own_tagged h.fe g1 h.res (by decide)) g2 r1 (by decide)
  exact ⟨⟨b2.keep (grown_drew _), own_grow o1 (grown_drew _), own_grow o2 (grown_drew _), grown_trans (grown_set2 (grown_set2 h.gr l0 _ _) l0 _ _) (grown_drew _), ⟨by omega, l2⟩⟩, r2⟩
theorem ex_fN (vE vB vC vF : Value) : (fndN exP.shut (pos (names (exES vE vB vC vF)) exC.nm) = 4 ∧ fndN exP.shut (pos (names (exES vE vB vC vF)) exB.nm) = 3) ∧ fndN exP.shut (pos (names (exES vE vB vC vF)) exE.nm) = 1 ∧ fndN exP.shut (pos (names (exES vE vB vC vF)) exF.nm) = 2 := by
  show (fndN true (pos [exE.nm, exF.nm, exB.nm, exC.nm] exC.nm) = 4 ∧ fndN true (pos [exE.nm, exF.nm, exB.nm, exC.nm] exB.nm) = 3) ∧ fndN true (pos [exE.nm, exF.nm, exB.nm, exC.nm] exE.nm) = 1 ∧ fndN true (pos [exE.nm, exF.nm, exB.nm, exC.nm] exF.nm) = 2
  decide +kernel
theorem ex_fE (vE vB vC vF : Value) : (fndE exP.shut (pos (names (exES vE vB vC vF)) exC.nm) = 0 ∧ fndE exP.shut (pos (names (exES vE vB vC vF)) exB.nm) = 0) ∧ fndE exP.shut (pos (names (exES vE vB vC vF)) exE.nm) = 0 ∧ fndE exP.shut (pos (names (exES vE vB vC vF)) exF.nm) = 0 := by
  show (fndE true (pos [exE.nm, exF.nm, exB.nm, exC.nm] exC.nm) = 0 ∧ fndE true (pos [exE.nm, exF.nm, exB.nm, exC.nm] exB.nm) = 0) ∧ fndE true (pos [exE.nm, exF.nm, exB.nm, exC.nm] exE.nm) = 0 ∧ fndE true (pos [exE.nm, exF.nm, exB.nm, exC.nm] exF.nm) = 0
  decide +kernel
theorem Tryz.linfoT : (Tryz.prog.info? 86).map (fun i => (i.zero, i.size, i.bytes)) = some (some (.agg #[.int .i64 0, .int .i64 0, .int .u8 0, .int .i64 0, .int .i64 0, .int .i64 0, .int .i64 0, .int .i64 0, .int .i64 0, .int .i64 0, .bool false]), 11, 88) := by kernel_rfl
theorem len_smallT {n : Nat} (h : n ≤ 4096) : n + 1 ≤ maxLen ∧ (n + 1) * 88 ≤ 140737488355328 := by unfold maxLen; omega
theorem len_smallF {n : Nat} (h : n ≤ 4096) : n + 1 ≤ maxLen ∧ (n + 1) * 32 ≤ 140737488355328 := by unfold maxLen; omega
theorem th_src (Z : World) (t : Th) : Src (Z.alloc (.cells (thc t).toArray 86)) (.slice (some ⟨Z.heap.size, 0, none⟩) 1 1) 1 11 (thc t) := lit_Src (cs := (thc t).toArray) (alloc_at Z _ _) rfl 1
theorem fe_src (Z : World) (f : Fe) : Src (Z.alloc (.cells (fec f).toArray 88)) (.slice (some ⟨Z.heap.size, 0, none⟩) 1 1) 1 5 (fec f) := lit_Src (cs := (fec f).toArray) (alloc_at Z _ _) rfl 1
end Go.Proofs.YtblkghfnjahkeaaGreat
