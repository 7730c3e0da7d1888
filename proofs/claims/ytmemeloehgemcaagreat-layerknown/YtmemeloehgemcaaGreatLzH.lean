/-
  Layers: the book of the chapter's examples.
-/
import Derived.Test.YtmemeloehgemcaaGreatK41
namespace Go.Proofs.YtmemeloehgemcaaGreat
open Go.RowKit Go.Shelf

def exC : Hd := ⟨⟨#[99, 114, 111, 119, 110]⟩, 6, 3, 0, 0, 0, 0, false⟩
def exCp : Pt := ⟨5, 15, 9, 1, 6, 0, 0, ⟨#[]⟩⟩
def exB : Hd := ⟨⟨#[98, 114, 117, 115, 104]⟩, 6, 3, 0, 0, 0, 0, false⟩
def exBp : Pt := ⟨5, 11, 5, 0, 6, 0, 0, ⟨#[]⟩⟩
def exE : Hd := ⟨⟨#[98, 101, 97, 114]⟩, 2, 1, 0, 2, 2, 0, false⟩
def exF : Hd := ⟨⟨#[116, 104, 105, 101, 102]⟩, 5, 1, 0, 1, 1, 0, false⟩
def exFp : Pt := ⟨5, 10, 6, 0, 0, 0, 0, ⟨#[]⟩⟩
theorem ex_caC : caE plNew [] (exC.with [exCp]) = 0 := by
  show (if plNew.shut = true then (7 : Int) else if ¬ cchk (exC.with [exCp]) = 0 then cchk (exC.with [exCp]) else if 0 ≤ pos [] exC.nm then 5 else if (0 : Nat) = 64 then 14 else 0) = 0
  decide +kernel
theorem ex_inC (vC : Value) : ins [] ⟨exC, vC, [exCp]⟩ = [⟨exC, vC, [exCp]⟩] := by
  rfl
theorem ex_caB (vC : Value) : caE plNew [⟨exC, vC, [exCp]⟩] (exB.with [exBp]) = 0 := by
  show (if plNew.shut = true then (7 : Int) else if ¬ cchk (exB.with [exBp]) = 0 then cchk (exB.with [exBp]) else if 0 ≤ pos [exC.nm] exB.nm then 5 else if (1 : Nat) = 64 then 14 else 0) = 0
  decide +kernel
theorem ex_inB (vB vC : Value) : ins [⟨exC, vC, [exCp]⟩] ⟨exB, vB, [exBp]⟩ = [⟨exB, vB, [exBp]⟩, ⟨exC, vC, [exCp]⟩] := by
  rw [ins_cons, if_neg (by show ¬ ord exC exB < 0; decide +kernel)]
theorem ex_caE (vB vC : Value) : caE plNew [⟨exB, vB, [exBp]⟩, ⟨exC, vC, [exCp]⟩] (exE.with []) = 0 := by
  show (if plNew.shut = true then (7 : Int) else if ¬ cchk (exE.with []) = 0 then cchk (exE.with []) else if 0 ≤ pos [exB.nm, exC.nm] exE.nm then 5 else if (2 : Nat) = 64 then 14 else 0) = 0
  decide +kernel
theorem ex_inE (vE vB vC : Value) : ins [⟨exB, vB, [exBp]⟩, ⟨exC, vC, [exCp]⟩] ⟨exE, vE, []⟩ = [⟨exE, vE, []⟩, ⟨exB, vB, [exBp]⟩, ⟨exC, vC, [exCp]⟩] := by
  rw [ins_cons, if_neg (by show ¬ ord exB exE < 0; decide +kernel)]
theorem ex_caF (vE vB vC : Value) : caE plNew [⟨exE, vE, []⟩, ⟨exB, vB, [exBp]⟩, ⟨exC, vC, [exCp]⟩] (exF.with [exFp]) = 0 := by
  show (if plNew.shut = true then (7 : Int) else if ¬ cchk (exF.with [exFp]) = 0 then cchk (exF.with [exFp]) else if 0 ≤ pos [exE.nm, exB.nm, exC.nm] exF.nm then 5 else if (3 : Nat) = 64 then 14 else 0) = 0
  decide +kernel
theorem ex_inF (vE vF vB vC : Value) : ins [⟨exE, vE, []⟩, ⟨exB, vB, [exBp]⟩, ⟨exC, vC, [exCp]⟩] ⟨exF, vF, [exFp]⟩ = [⟨exE, vE, []⟩, ⟨exF, vF, [exFp]⟩, ⟨exB, vB, [exBp]⟩, ⟨exC, vC, [exCp]⟩] := by
  rw [ins_cons, if_pos (by show ord exE exF < 0; decide +kernel)]
  rw [ins_cons, if_neg (by show ¬ ord exB exF < 0; decide +kernel)]
def exES (vE vB vC vF : Value) : List Ent := [⟨exE, vE, []⟩, ⟨exF, vF, [exFp]⟩, ⟨exB, vB, [exBp]⟩, ⟨exC, vC, [exCp]⟩]
def exP : Pl := { plNew with shut := true }
theorem ex_seal (vE vB vC vF : Value) : sealE plNew (exES vE vB vC vF) = 0 := by
  unfold sealE
  rw [if_neg (by decide)]
  simp [exES, sealL, callsE, callE, exBp, exCp, exFp]
theorem ex_shut (vE vB vC vF : Value) : sealP plNew (exES vE vB vC vF) = exP := if_pos (ex_seal vE vB vC vF)
theorem ps_one {W : World} {n : Nat} {p : Pt} (h : W.heap[n]? = some (.cells #[.int .u8 p.wn, .int .u8 p.vb, .int .u8 p.wm, .int .i64 p.ct, .int .u8 p.su, .int .u8 p.tr, .int .u8 p.mr, .string p.nm] 47 (0, 0))) : PsAt W (.slice (some ⟨n, 0, none⟩) 1 1) [p] := by
  refine Or.inr ⟨⟨n, 0, none⟩, 1, rfl, Nat.le_refl _, fun j u hu => ?_⟩
  have hb := block_cell h j
  rw [add_plain', Nat.zero_add, hb]
  have e : pcells [p] = [.int .u8 p.wn, .int .u8 p.vb, .int .u8 p.wm, .int .i64 p.ct, .int .u8 p.su, .int .u8 p.tr, .int .u8 p.mr, .string p.nm] := rfl
  rw [e] at hu
  simpa using hu
theorem cell_blockL {w : World} {g o : Nat} {v : Value} (h : w.cell? ⟨g, o, none⟩ = some v) : g < w.heap.size := by
  by_cases hg : g < w.heap.size
  · exact hg
  · have : w.heap[g]? = none := Array.getElem?_eq_none (by omega)
    simp [World.cell?, this] at h
theorem Good.oldL {ok : Nat → Prop} {w : World} {es : List Ent} (h : Good ok w es) : Good (fun k => ok k ∧ k < w.heap.size) w es := fun e he => by
  obtain ⟨h1, h2⟩ := h e he
  refine ⟨h1, fun g o n c ev hn => ⟨h2 g o n c ev hn, ?_⟩⟩
  obtain ⟨x, y, hf⟩ := h1.form
  rw [hf] at ev
  injection ev with e1 e2 e3
  have h0 : 0 < e.ps.length := by omega
  obtain ⟨g', off, cap, ev', hP⟩ := h1.part h0
  rw [hf] at ev'
  injection ev' with e1' _ _
  rw [e1] at e1'
  injection e1' with e1'
  injection e1' with e1' _ _
  subst e1'
  obtain ⟨p, hp⟩ : ∃ p, e.ps[0]? = some p := ⟨_, List.getElem?_eq_getElem h0⟩
  exact cell_blockL (hP 0 p hp).c0
theorem Book.oldL {ok : Nat → Prop} {w : World} {b : Nat} {es : List Ent} {p : Pl} (h : Book ok w b es p) : Book (fun k => ok k ∧ k < w.heap.size) w b es p := ⟨h.lies, h.good.oldL, h.srt, h.fine, h.may⟩
def exT : List Th := [⟨4, 0, 4, 1, 0, 0, 0, 0, 0, 0, false⟩, ⟨3, 0, 4, 2, 0, 0, 0, 0, 0, 0, false⟩, ⟨1, 0, 4, 3, 0, 0, 0, 0, 0, 0, false⟩, ⟨1, 1, 4, 4, 0, 0, 0, 0, 0, 0, false⟩]
def exFs : List Fe := [⟨0, 6, 0, 0, 0⟩, ⟨0, 6, 0, 0, 0⟩, ⟨0, 2, 0, 2, 2⟩, ⟨1, 2, 0, 2, 2⟩]
structure ExS (w wr : World) (b S nb ns t0 : Nat) (vE vB vC vF vt vf : Value) (T : List Th) (F : List Fe) : Prop where
  bk : Book (fun k => tgOk b k ∧ k < S) wr b (exES vE vB vC vF) exP
  tab : TabB wr nb vt vf
  res : TabB wr t0 (.slice none 0 0) (.slice none 0 0)
  th : thR.Own 60 wr S vt T
  fe : feR.Own 64 wr S vf F
  nm : wr.heap[ns]? = some (.cells #[.string exC.nm, .string exB.nm, .string exE.nm, .string exE.nm] 9 (0, 0))
  gr : w.grownBy wr none
  lie : w.heap.size ≤ t0 ∧ t0 < b ∧ b < S ∧ S ≤ nb ∧ nb < ns
theorem ExS.grow {w wr w' : World} {b S nb ns t0 : Nat} {vE vB vC vF vt vf : Value} {T : List Th} {F : List Fe} (h : ExS w wr b S nb ns t0 vE vB vC vF vt vf T F) (g : wr.grownBy w' none) : ExS w w' b S nb ns t0 vE vB vC vF vt vf T F := ⟨h.bk.keep g, grown_keep g h.tab (by simp), grown_keep g h.res (by simp), h.th.grow g, h.fe.grow g, grown_keep g h.nm (by simp), grown_trans h.gr g, h.lie⟩
theorem blk_setL {w : World} {b i : Nat} {T : TypeId} {cs cs' : Array Value} {u : Value} (h : w.heap[b]? = some (.cells cs T (0, 0))) (e : cs.setIfInBounds i u = cs') : (w.setCell ⟨b, i, none⟩ u).heap[b]? = some (.cells cs' T (0, 0)) := by rw [← e]; exact block_set h i u
theorem ExS.things {w wr w' : World} {b S nb ns t0 : Nat} {vE vB vC vF vt vf vt' : Value} {T T' : List Th} {F : List Fe} (h : ExS w wr b S nb ns t0 vE vB vC vF vt vf T F) (o : thR.Own 60 w' S vt' T') (g : wr.grownBy w' vt.ownBlock) : ExS w (w'.setCell ⟨nb, 0, none⟩ vt') b S nb ns t0 vE vB vC vF vt' vf T' F := by
  obtain ⟨l0, l1, l2, l3, l4⟩ := h.lie
  have hy : ∀ y, vt.ownBlock = some y → S ≤ y := fun y e => (World.ownsRow.lt h.th y e).1
  have b1 := h.bk.keepR g (fun q => by have := hy b q.symm; omega) (fun k hk q => by have := hy k q.symm; omega)
  have t1 : TabB w' nb vt vf := grown_keep g h.tab (own_tag h.th h.tab (by decide))
  have r1 : TabB w' t0 (.slice none 0 0) (.slice none 0 0) := grown_keep g h.res (own_tag h.th h.res (by decide))
  have n1 := grown_keep g h.nm (own_tag h.th h.nm (by decide))
  have g2 := grown_set w' nb 0 vt'
  exact ⟨b1.keepR g2 (fun q => by cases q; omega) (fun k hk q => by cases q; omega), blk_setL t1 rfl, grown_keep g2 r1 (fun q => by cases q; omega), own_tagged o g2 t1 (by decide), own_tagged (own_other h.fe h.th (by decide) g) g2 t1 (by decide), grown_keep g2 n1 (fun q => by cases q; omega), grown_set2 (grown_own h.gr g (fun y e => by have := hy y e; omega)) (by omega) _ _, h.lie⟩
theorem ExS.feats {w wr w' : World} {b S nb ns t0 : Nat} {vE vB vC vF vt vf vf' : Value} {T : List Th} {F F' : List Fe} (h : ExS w wr b S nb ns t0 vE vB vC vF vt vf T F) (o : feR.Own 64 w' S vf' F') (g : wr.grownBy w' vf.ownBlock) : ExS w (w'.setCell ⟨nb, 1, none⟩ vf') b S nb ns t0 vE vB vC vF vt vf' T F' := by
  obtain ⟨l0, l1, l2, l3, l4⟩ := h.lie
  have hy : ∀ y, vf.ownBlock = some y → S ≤ y := fun y e => (World.ownsRow.lt h.fe y e).1
  have b1 := h.bk.keepR g (fun q => by have := hy b q.symm; omega) (fun k hk q => by have := hy k q.symm; omega)
  have t1 : TabB w' nb vt vf := grown_keep g h.tab (own_tag h.fe h.tab (by decide))
  have r1 : TabB w' t0 (.slice none 0 0) (.slice none 0 0) := grown_keep g h.res (own_tag h.fe h.res (by decide))
  have n1 := grown_keep g h.nm (own_tag h.fe h.nm (by decide))
  have g2 := grown_set w' nb 1 vf'
  exact ⟨b1.keepR g2 (fun q => by cases q; omega) (fun k hk q => by cases q; omega), blk_setL t1 rfl, grown_keep g2 r1 (fun q => by cases q; omega), own_tagged (own_other h.th h.fe (by decide) g) g2 t1 (by decide), own_tagged o g2 t1 (by decide), grown_keep g2 n1 (fun q => by cases q; omega), grown_set2 (grown_own h.gr g (fun y e => by have := hy y e; omega)) (by omega) _ _, h.lie⟩
theorem ExS.cellT {w wr : World} {b S nb ns t0 : Nat} {vE vB vC vF vt vf : Value} {T : List Th} {F : List Fe} (h : ExS w wr b S nb ns t0 vE vB vC vF vt vf T F) : ∀ w', wr.grownBy w' vt.ownBlock → w'.cell? ⟨nb, 0, none⟩ = some vt ∧ w'.frozen? ⟨nb, 0, none⟩ = false := fun w' g => by
  have t1 : TabB w' nb vt vf := grown_keep g h.tab (own_tag h.th h.tab (by decide))
  exact ⟨(tab_box t1).1, block_free t1 0⟩
theorem ExS.cellF {w wr : World} {b S nb ns t0 : Nat} {vE vB vC vF vt vf : Value} {T : List Th} {F : List Fe} (h : ExS w wr b S nb ns t0 vE vB vC vF vt vf T F) : ∀ w', wr.grownBy w' vf.ownBlock → w'.cell? ⟨nb, 1, none⟩ = some vf ∧ w'.frozen? ⟨nb, 1, none⟩ = false := fun w' g => by
  have t1 : TabB w' nb vt vf := grown_keep g h.tab (own_tag h.fe h.tab (by decide))
  exact ⟨(tab_box t1).2, block_free t1 1⟩
structure ExR (w wr : World) (b S : Nat) (vE vB vC vF vt vf : Value) : Prop where
  bk : Book (fun k => tgOk b k ∧ k < S) wr b (exES vE vB vC vF) exP
  th : thR.Own 60 wr S vt exT
  fe : feR.Own 64 wr S vf exFs
  gr : w.grownBy wr none
  lie : w.heap.size < b ∧ b < S
theorem ExS.done {w wr : World} {b S nb ns t0 : Nat} {vE vB vC vF vt vf : Value} (h : ExS w wr b S nb ns t0 vE vB vC vF vt vf exT exFs) : ExR w ((wr.setCell ⟨t0, 0, none⟩ vt).setCell ⟨t0, 1, none⟩ vf).drew b S vE vB vC vF vt vf ∧ TabB ((wr.setCell ⟨t0, 0, none⟩ vt).setCell ⟨t0, 1, none⟩ vf).drew t0 vt vf := by
  obtain ⟨l0, l1, l2, l3, l4⟩ := h.lie
  have g1 := grown_set wr t0 0 vt
  have r1 : TabB (wr.setCell ⟨t0, 0, none⟩ vt) t0 vt (.slice none 0 0) := blk_setL h.res rfl
  have g2 := grown_set (wr.setCell ⟨t0, 0, none⟩ vt) t0 1 vf
  have r2 : TabB ((wr.setCell ⟨t0, 0, none⟩ vt).setCell ⟨t0, 1, none⟩ vf) t0 vt vf := blk_setL r1 rfl
  have hb : some b ≠ some t0 := fun q => by cases q; omega
  have hk : ∀ k, tgOk b k ∧ k < S → some k ≠ some t0 := fun k hk q => by cases q; have h1 : b < t0 := hk.1; omega
  have b2 := (h.bk.keepR g1 hb hk).keepR g2 hb hk
  have o1 := own_tagged (own_tagged h.th g1 h.res (by decide)) g2 r1 (by decide)
  have o2 := own_tagged (own_tagged h.fe g1 h.res (by decide)) g2 r1 (by decide)
  exact ⟨⟨b2.keep (grown_drew _), own_grow o1 (grown_drew _), own_grow o2 (grown_drew _), grown_trans (grown_set2 (grown_set2 h.gr l0 _ _) l0 _ _) (grown_drew _), ⟨by omega, l2⟩⟩, r2⟩
theorem ex_fN (vE vB vC vF : Value) : (fndN exP.shut (pos (names (exES vE vB vC vF)) exC.nm) = 4 ∧ fndN exP.shut (pos (names (exES vE vB vC vF)) exB.nm) = 3) ∧ fndN exP.shut (pos (names (exES vE vB vC vF)) exE.nm) = 1 ∧ fndN exP.shut (pos (names (exES vE vB vC vF)) exF.nm) = 2 := by
  show (fndN true (pos [exE.nm, exF.nm, exB.nm, exC.nm] exC.nm) = 4 ∧ fndN true (pos [exE.nm, exF.nm, exB.nm, exC.nm] exB.nm) = 3) ∧ fndN true (pos [exE.nm, exF.nm, exB.nm, exC.nm] exE.nm) = 1 ∧ fndN true (pos [exE.nm, exF.nm, exB.nm, exC.nm] exF.nm) = 2
  decide +kernel
theorem ex_fE (vE vB vC vF : Value) : (fndE exP.shut (pos (names (exES vE vB vC vF)) exC.nm) = 0 ∧ fndE exP.shut (pos (names (exES vE vB vC vF)) exB.nm) = 0) ∧ fndE exP.shut (pos (names (exES vE vB vC vF)) exE.nm) = 0 ∧ fndE exP.shut (pos (names (exES vE vB vC vF)) exF.nm) = 0 := by
  show (fndE true (pos [exE.nm, exF.nm, exB.nm, exC.nm] exC.nm) = 0 ∧ fndE true (pos [exE.nm, exF.nm, exB.nm, exC.nm] exB.nm) = 0) ∧ fndE true (pos [exE.nm, exF.nm, exB.nm, exC.nm] exE.nm) = 0 ∧ fndE true (pos [exE.nm, exF.nm, exB.nm, exC.nm] exF.nm) = 0
  decide +kernel
theorem Tryz.linfoT : (Tryz.prog.info? 60).map (fun i => (i.zero, i.size, i.bytes)) = some (some (.agg #[.int .i64 0, .int .i64 0, .int .u8 0, .int .i64 0, .int .i64 0, .int .i64 0, .int .i64 0, .int .i64 0, .int .i64 0, .int .i64 0, .bool false]), 11, 88) := by kernel_rfl
theorem len_smallT {n : Nat} (h : n ≤ 4096) : n + 1 ≤ maxLen ∧ (n + 1) * 88 ≤ 140737488355328 := by unfold maxLen; omega
theorem len_smallF {n : Nat} (h : n ≤ 4096) : n + 1 ≤ maxLen ∧ (n + 1) * 32 ≤ 140737488355328 := by unfold maxLen; omega
theorem th_src (Z : World) (t : Th) : Src (Z.alloc (.cells (thc t).toArray 60)) (.slice (some ⟨Z.heap.size, 0, none⟩) 1 1) 1 11 (thc t) := lit_Src (cs := (thc t).toArray) (alloc_at Z _ _) rfl 1
theorem fe_src (Z : World) (f : Fe) : Src (Z.alloc (.cells (fec f).toArray 64)) (.slice (some ⟨Z.heap.size, 0, none⟩) 1 1) 1 5 (fec f) := lit_Src (cs := (fec f).toArray) (alloc_at Z _ _) rfl 1
end Go.Proofs.YtmemeloehgemcaaGreat
