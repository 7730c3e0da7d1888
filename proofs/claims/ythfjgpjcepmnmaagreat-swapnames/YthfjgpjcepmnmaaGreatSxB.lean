/-
  Swap's laws: the chapter's example.
-/
import Derived.Test.YthfjgpjcepmnmaaGreatS42
import Derived.Test.YthfjgpjcepmnmaaGreatS29
namespace Go.Proofs.YthfjgpjcepmnmaaGreat
open Go.RowKit Go.Shelf

def sxAl : Pt := ⟨5, 15, 7, 1, 0, 0, 0, ⟨#[]⟩⟩
def sxR : Hd := crd ⟨#[114, 97, 109, 112, 97, 114, 116]⟩ 2 3 0
def sxRp : Pt := ⟨6, 16, 5, 1, 0, 0, 0, ⟨#[]⟩⟩
def sxG : Hd := crd ⟨#[103, 111, 108, 101, 109]⟩ 2 1 5
def sxGp : Pt := ⟨6, 19, 4, 1, 0, 0, 0, ⟨#[]⟩⟩
def sxK : Hd := crd ⟨#[114, 111, 99, 107]⟩ 2 1 1
def sxH : Hd := crd ⟨#[104, 111, 108, 108, 111, 119]⟩ 5 3 0
def sxHp : Pt := ⟨6, 17, 2, 0, 0, 0, 0, ⟨#[]⟩⟩
def sxHq : Pt := ⟨6, 18, 1, 0, 0, 0, 0, ⟨#[]⟩⟩
def eR (v : Value) : Ent := ⟨sxR, v, [sxAl, sxAl, sxRp]⟩
def eG (v : Value) : Ent := ⟨sxG, v, [sxAl, sxGp]⟩
def eK (v : Value) : Ent := ⟨sxK, v, []⟩
def eH (v : Value) : Ent := ⟨sxH, v, [sxHp, sxHq]⟩
theorem sx_caR : caE plNew [] (sxR.with [sxAl, sxAl, sxRp]) = 0 := by
  show (if plNew.shut = true then (7 : Int) else if ¬ cchk (sxR.with [sxAl, sxAl, sxRp]) = 0 then cchk (sxR.with [sxAl, sxAl, sxRp]) else if 0 ≤ pos [] sxR.nm then 5 else if (0 : Nat) = 64 then 14 else 0) = 0
  decide +kernel
theorem sx_caG (vR : Value) : caE plNew [eR vR] (sxG.with [sxAl, sxGp]) = 0 := by
  show (if plNew.shut = true then (7 : Int) else if ¬ cchk (sxG.with [sxAl, sxGp]) = 0 then cchk (sxG.with [sxAl, sxGp]) else if 0 ≤ pos [sxR.nm] sxG.nm then 5 else if (1 : Nat) = 64 then 14 else 0) = 0
  decide +kernel
theorem sx_inG (vG vR : Value) : ins [eR vR] (eG vG) = [eG vG, eR vR] := by
  rw [ins_cons, if_neg (by show ¬ ord sxR sxG < 0; decide +kernel)]
theorem sx_caK (vG vR : Value) : caE plNew [eG vG, eR vR] (sxK.with []) = 0 := by
  show (if plNew.shut = true then (7 : Int) else if ¬ cchk (sxK.with []) = 0 then cchk (sxK.with []) else if 0 ≤ pos [sxG.nm, sxR.nm] sxK.nm then 5 else if (2 : Nat) = 64 then 14 else 0) = 0
  decide +kernel
theorem sx_inK (vG vR vK : Value) : ins [eG vG, eR vR] (eK vK) = [eG vG, eR vR, eK vK] := by
  rw [ins_cons, if_pos (by show ord sxG sxK < 0; decide +kernel), ins_cons, if_pos (by show ord sxR sxK < 0; decide +kernel)]
  rfl
theorem sx_caH (vG vR vK : Value) : caE plNew [eG vG, eR vR, eK vK] (sxH.with [sxHp, sxHq]) = 0 := by
  show (if plNew.shut = true then (7 : Int) else if ¬ cchk (sxH.with [sxHp, sxHq]) = 0 then cchk (sxH.with [sxHp, sxHq]) else if 0 ≤ pos [sxG.nm, sxR.nm, sxK.nm] sxH.nm then 5 else if (3 : Nat) = 64 then 14 else 0) = 0
  decide +kernel
theorem sx_inH (vG vR vK vH : Value) : ins [eG vG, eR vR, eK vK] (eH vH) = [eG vG, eR vR, eK vK, eH vH] := by
  rw [ins_cons, if_pos (by show ord sxG sxH < 0; decide +kernel), ins_cons, if_pos (by show ord sxR sxH < 0; decide +kernel), ins_cons, if_pos (by show ord sxK sxH < 0; decide +kernel)]
  rfl
def sxES (vG vR vK vH : Value) : List Ent := [eG vG, eR vR, eK vK, eH vH]
theorem sx_seal (vG vR vK vH : Value) : sealE plNew (sxES vG vR vK vH) = 0 := by
  unfold sealE
  rw [if_neg (by decide)]
  simp [sxES, eG, eR, eK, eH, sealL, callsE, callE, sxAl, sxRp, sxGp, sxHp, sxHq]
theorem sx_shut (vG vR vK vH : Value) : sealP plNew (sxES vG vR vK vH) = exP := if_pos (sx_seal vG vR vK vH)
def sxT : List Th := [⟨2, 0, 4, 1, 0, 0, 0, 0, 0, 0, false⟩, ⟨1, 0, 4, 2, 0, 0, 0, 1, 0, 0, false⟩, ⟨4, 1, 4, 3, 0, 0, 0, 0, 0, 0, false⟩, ⟨3, 0, 4, 4, 0, 0, 0, 0, 0, 0, false⟩]
def sxF : List Fe := [⟨0, 2, 0, 0, 0⟩, ⟨0, 2, 0, 0, 5⟩, ⟨1, 5, 0, 0, 0⟩, ⟨0, 2, 0, 0, 1⟩]
structure SxR (w wr : World) (b S g f : Nat) (vG vR vK vH : Value) : Prop where
  bk : Book (fun k => tgOk b k ∧ k < S) wr b (sxES vG vR vK vH) exP
  th : thR.Own 100 wr S (.slice (some ⟨g, 0, none⟩) 4 4) sxT
  fe : feR.Own 65 wr S (.slice (some ⟨f, 0, none⟩) 4 4) sxF
  gr : w.grownBy wr none
  lie : w.heap.size ≤ b ∧ b < S
theorem SxR.keep {w wr w' : World} {b S g f : Nat} {vG vR vK vH : Value} (h : SxR w wr b S g f vG vR vK vH) (k : wr.grownBy w' none) : SxR w w' b S g f vG vR vK vH := ⟨h.bk.keep k, own_grow h.th k, own_grow h.fe k, grown_trans h.gr k, h.lie⟩
theorem ps_lits {W : World} {n : Nat} {ps : List Pt} {m : Nat} (hm : m = ps.length) (h : W.heap[n]? = some (.cells (pcells ps).toArray 38 (0, 0))) : PsAt W (.slice (some ⟨n, 0, none⟩) m m) ps := by
  subst hm
  refine Or.inr ⟨⟨n, 0, none⟩, ps.length, rfl, Nat.le_refl _, fun j u hu => ?_⟩
  have hb := block_cell h j
  rw [add_plain', Nat.zero_add, hb]
  simpa using hu
structure SxS (w wr : World) (b n4 : Nat) (es : List Ent) (p : Pl) : Prop where
  bk : Book (tgOk b) wr b es p
  al : wr.heap[n4]? = some (.cells (pcells [sxAl]).toArray 38 (0, 0))
  gr : w.grownBy wr none
  lie : w.heap.size ≤ b ∧ b < n4
theorem SxS.keep {w wr w' : World} {b n4 : Nat} {es : List Ent} {p : Pl} (h : SxS w wr b n4 es p) (g : wr.grownBy w' none) : SxS w w' b n4 es p := ⟨h.bk.keep g, grown_keep g h.al (by simp), grown_trans h.gr g, h.lie⟩
theorem SxS.turn {w wr w' : World} {b n4 : Nat} {es es' : List Ent} {p p' : Pl} (h : SxS w wr b n4 es p) (g : wr.grownBy w' (some b)) (B : Book (tgOk b) w' b es' p') : SxS w w' b n4 es' p' := by
  obtain ⟨l0, l1⟩ := h.lie
  exact ⟨B, grown_keep g h.al (fun q => by cases q; omega), grown_own h.gr g (fun x e => by cases e; exact l0), h.lie⟩
theorem SxS.card {w wr : World} {b n4 : Nat} {es : List Ent} {h : Hd} {v : Value} {ps : List Pt} (H : SxS w wr b n4 es plNew) (hp : PsAt wr v ps) (hm : Small ps.length) (hc : caE plNew es (h.with ps) = 0) : Calls Tryz.prog 59 #[.pointer (some ⟨b, 0, none⟩), cv h v] wr fun e w' => ∃ u, e = .returned (.int .i64 0) ∧ SxS w w' b n4 (ins es ⟨h, u, ps⟩) plNew := by
  have q := bcard (tgOk b) b es plNew h v ps wr H.bk (Nat.lt_irrefl _) (fun k hk => by show b < k; have := H.bk.lt; omega) hp hm
  rw [hc] at q
  exact q.mono fun e w' ⟨u, e1, B, g⟩ => ⟨u, e1, H.turn g B⟩
theorem sx_things (S : Nat) (g : Nat) (W : World) (hS : S ≤ g) (h : W.heap[g]? = some (.cells (thR.cs sxT).toArray 100 (0, 0))) : thR.Own 100 W S (.slice (some ⟨g, 0, none⟩) 4 4) sxT := ⟨rfl, Or.inr ⟨g, 4, _, rfl, hS, h, Nat.le_refl _, (by unfold maxLen; decide), rfl, rfl⟩⟩
theorem sx_feats (S : Nat) (g : Nat) (W : World) (hS : S ≤ g) (h : W.heap[g]? = some (.cells (feR.cs sxF).toArray 65 (0, 0))) : feR.Own 65 W S (.slice (some ⟨g, 0, none⟩) 4 4) sxF := ⟨rfl, Or.inr ⟨g, 4, _, rfl, hS, h, Nat.le_refl _, (by unfold maxLen; decide), rfl, rfl⟩⟩
set_option maxRecDepth 100000 in
set_option maxHeartbeats 4000000 in
theorem sxexample_any (w : World) : Calls Tryz.prog 9 #[] w fun e w' => ∃ vG vR vK vH S g f, e = .returned (.tuple #[.pointer (some ⟨w.heap.size, 0, none⟩), .slice (some ⟨g, 0, none⟩) 4 4, .slice (some ⟨f, 0, none⟩) 4 4]) ∧ SxR w w' w.heap.size S g f vG vR vK vH := by
  have HN := bnew (tgOk w.heap.size) w
  obtain ⟨b, hb⟩ : ∃ b, b = w.heap.size := ⟨_, rfl⟩
  have HBb : Hid (b = w.heap.size) := hb
  rw [← hb] at HN ⊢
  clear hb
  go_enter Tryz.func9, Tryz.ntmps9
  go_wp2_with fail
  refine HN.mono ?_
  rintro e w1 ⟨rfl, B1, g1, hz1⟩
  obtain ⟨V1, hV1⟩ : ∃ V1, V1 = w1.alloc (.cells #[.int .u8 5, .int .u8 15, .int .u8 7, .int .i64 1, .int .u8 0, .int .u8 0, .int .u8 0, .string ⟨#[]⟩] 38) := ⟨_, rfl⟩
  have HS1 : Hid (SxS w V1 b w1.heap.size [] plNew) := ⟨by rw [hV1]; exact B1.keep (World.grownBy_alloc _ _ none), by rw [hV1]; exact alloc_at _ _ _, by rw [hV1]; exact grown_push g1 _, by have := HBb.out; omega, B1.lt⟩
  clear HN B1 g1 hz1
  go_upto_region 3 with fail
  rw [← hV1]
  clear hV1
  obtain ⟨n4, hn4⟩ : ∃ n4, n4 = w1.heap.size := ⟨_, rfl⟩
  rw [← hn4] at HS1 ⊢
  clear hn4
  have a0 : V1.cell? ⟨n4, 0, none⟩ = some (.int .u8 5) := (block_cell HS1.out.al 0).trans rfl
  have a1 : V1.cell? ⟨n4, 1, none⟩ = some (.int .u8 15) := (block_cell HS1.out.al 1).trans rfl
  have a2 : V1.cell? ⟨n4, 2, none⟩ = some (.int .u8 7) := (block_cell HS1.out.al 2).trans rfl
  have a3 : V1.cell? ⟨n4, 3, none⟩ = some (.int .i64 1) := (block_cell HS1.out.al 3).trans rfl
  have a4 : V1.cell? ⟨n4, 4, none⟩ = some (.int .u8 0) := (block_cell HS1.out.al 4).trans rfl
  have a5 : V1.cell? ⟨n4, 5, none⟩ = some (.int .u8 0) := (block_cell HS1.out.al 5).trans rfl
  have a6 : V1.cell? ⟨n4, 6, none⟩ = some (.int .u8 0) := (block_cell HS1.out.al 6).trans rfl
  have a7 : V1.cell? ⟨n4, 7, none⟩ = some (.string ⟨#[]⟩) := (block_cell HS1.out.al 7).trans rfl
  obtain ⟨XR, hXR⟩ : ∃ X, X = V1.alloc (.cells #[.int .u8 5, .int .u8 15, .int .u8 7, .int .i64 1, .int .u8 0, .int .u8 0, .int .u8 0, .string ⟨#[]⟩, .int .u8 5, .int .u8 15, .int .u8 7, .int .i64 1, .int .u8 0, .int .u8 0, .int .u8 0, .string ⟨#[]⟩, .int .u8 6, .int .u8 16, .int .u8 5, .int .i64 1, .int .u8 0, .int .u8 0, .int .u8 0, .string ⟨#[]⟩] 38) := ⟨_, rfl⟩
  have HXR : Hid (SxS w XR b n4 [] plNew ∧ PsAt XR (.slice (some ⟨V1.heap.size, 0, none⟩) 3 3) [sxAl, sxAl, sxRp]) := by rw [hXR]; exact ⟨HS1.out.keep (World.grownBy_alloc _ _ none), ps_lits rfl (alloc_at _ _ _)⟩
  have CR : Calls Tryz.prog 60 #[.string ⟨#[114, 97, 109, 112, 97, 114, 116]⟩, .int .u8 2, .int .u8 3, .int .i64 0, .slice (some ⟨V1.heap.size, 0, none⟩) 3 3] XR fun e w' => e = .returned (.agg #[.string ⟨#[114, 97, 109, 112, 97, 114, 116]⟩, .int .u8 2, .int .u8 3, .int .i64 0, .int .i64 0, .int .i64 0, .int .u16 0, .bool false, .slice (some ⟨V1.heap.size, 0, none⟩) 3 3]) ∧ XR.grownBy w' none := xcard_any _ _ _ _ _ _ _ _
  clear HS1
  go_wp2_with fail
  rw [← hXR]
  clear hXR
  refine CR.mono ?_
  rintro e w2_R ⟨rfl, g2⟩
  clear CR
  have DR : Calls Tryz.prog 59 #[.pointer (some ⟨b, 0, none⟩), .agg #[.string ⟨#[114, 97, 109, 112, 97, 114, 116]⟩, .int .u8 2, .int .u8 3, .int .i64 0, .int .i64 0, .int .i64 0, .int .u16 0, .bool false, .slice (some ⟨V1.heap.size, 0, none⟩) 3 3]] w2_R fun e w' => ∃ u, e = .returned (.int .i64 0) ∧ SxS w w' b n4 (ins [] ⟨sxR, u, [sxAl, sxAl, sxRp]⟩) plNew := SxS.card (HXR.out.1.keep g2) (HXR.out.2.keep g2) (by unfold Small; simp) (sx_caR)
  clear g2 HXR
  go_wp2_with fail
  refine DR.mono ?_
  rintro e w3_R ⟨uR, rfl, h3_R⟩
  have HSR : Hid (SxS w w3_R b n4 [eR uR] plNew) := show SxS w w3_R b n4 (ins [] (eR uR)) plNew from h3_R
  clear DR h3_R a0 a1 a2 a3 a4 a5 a6 a7
  have a0 : w3_R.cell? ⟨n4, 0, none⟩ = some (.int .u8 5) := (block_cell HSR.out.al 0).trans rfl
  have a1 : w3_R.cell? ⟨n4, 1, none⟩ = some (.int .u8 15) := (block_cell HSR.out.al 1).trans rfl
  have a2 : w3_R.cell? ⟨n4, 2, none⟩ = some (.int .u8 7) := (block_cell HSR.out.al 2).trans rfl
  have a3 : w3_R.cell? ⟨n4, 3, none⟩ = some (.int .i64 1) := (block_cell HSR.out.al 3).trans rfl
  have a4 : w3_R.cell? ⟨n4, 4, none⟩ = some (.int .u8 0) := (block_cell HSR.out.al 4).trans rfl
  have a5 : w3_R.cell? ⟨n4, 5, none⟩ = some (.int .u8 0) := (block_cell HSR.out.al 5).trans rfl
  have a6 : w3_R.cell? ⟨n4, 6, none⟩ = some (.int .u8 0) := (block_cell HSR.out.al 6).trans rfl
  have a7 : w3_R.cell? ⟨n4, 7, none⟩ = some (.string ⟨#[]⟩) := (block_cell HSR.out.al 7).trans rfl
  obtain ⟨XG, hXG⟩ : ∃ X, X = w3_R.alloc (.cells #[.int .u8 5, .int .u8 15, .int .u8 7, .int .i64 1, .int .u8 0, .int .u8 0, .int .u8 0, .string ⟨#[]⟩, .int .u8 6, .int .u8 19, .int .u8 4, .int .i64 1, .int .u8 0, .int .u8 0, .int .u8 0, .string ⟨#[]⟩] 38) := ⟨_, rfl⟩
  have HXG : Hid (SxS w XG b n4 [eR uR] plNew ∧ PsAt XG (.slice (some ⟨w3_R.heap.size, 0, none⟩) 2 2) [sxAl, sxGp]) := by rw [hXG]; exact ⟨HSR.out.keep (World.grownBy_alloc _ _ none), ps_lits rfl (alloc_at _ _ _)⟩
  have CG : Calls Tryz.prog 60 #[.string ⟨#[103, 111, 108, 101, 109]⟩, .int .u8 2, .int .u8 1, .int .i64 5, .slice (some ⟨w3_R.heap.size, 0, none⟩) 2 2] XG fun e w' => e = .returned (.agg #[.string ⟨#[103, 111, 108, 101, 109]⟩, .int .u8 2, .int .u8 1, .int .i64 0, .int .i64 0, .int .i64 5, .int .u16 0, .bool false, .slice (some ⟨w3_R.heap.size, 0, none⟩) 2 2]) ∧ XG.grownBy w' none := xcard_any _ _ _ _ _ _ _ _
  clear HSR
  go_wp2_with fail
  rw [← hXG]
  clear hXG
  refine CG.mono ?_
  rintro e w2_G ⟨rfl, g2⟩
  clear CG
  have DG : Calls Tryz.prog 59 #[.pointer (some ⟨b, 0, none⟩), .agg #[.string ⟨#[103, 111, 108, 101, 109]⟩, .int .u8 2, .int .u8 1, .int .i64 0, .int .i64 0, .int .i64 5, .int .u16 0, .bool false, .slice (some ⟨w3_R.heap.size, 0, none⟩) 2 2]] w2_G fun e w' => ∃ u, e = .returned (.int .i64 0) ∧ SxS w w' b n4 (ins [eR uR] ⟨sxG, u, [sxAl, sxGp]⟩) plNew := SxS.card (HXG.out.1.keep g2) (HXG.out.2.keep g2) (by unfold Small; simp) (sx_caG uR)
  clear g2 HXG
  go_wp2_with fail
  refine DG.mono ?_
  rintro e w3_G ⟨uG, rfl, h3_G⟩
  have HSG : Hid (SxS w w3_G b n4 [eG uG, eR uR] plNew) := by have q := h3_G; rwa [show ins [eR uR] ⟨sxG, uG, [sxAl, sxGp]⟩ = [eG uG, eR uR] from sx_inG uG uR] at q
  clear DG h3_G a0 a1 a2 a3 a4 a5 a6 a7
  have HXK : Hid (SxS w w3_G b n4 [eG uG, eR uR] plNew ∧ PsAt w3_G (.slice none 0 0) []) := ⟨HSG.out, Or.inl ⟨rfl, rfl⟩⟩
  have CK : Calls Tryz.prog 60 #[.string ⟨#[114, 111, 99, 107]⟩, .int .u8 2, .int .u8 1, .int .i64 1, .slice none 0 0] w3_G fun e w' => e = .returned (.agg #[.string ⟨#[114, 111, 99, 107]⟩, .int .u8 2, .int .u8 1, .int .i64 0, .int .i64 0, .int .i64 1, .int .u16 0, .bool false, .slice none 0 0]) ∧ w3_G.grownBy w' none := xcard_any _ _ _ _ _ _ _ _
  clear HSG
  go_wp2_with fail
  refine CK.mono ?_
  rintro e w2_K ⟨rfl, g2⟩
  clear CK
  have DK : Calls Tryz.prog 59 #[.pointer (some ⟨b, 0, none⟩), .agg #[.string ⟨#[114, 111, 99, 107]⟩, .int .u8 2, .int .u8 1, .int .i64 0, .int .i64 0, .int .i64 1, .int .u16 0, .bool false, .slice none 0 0]] w2_K fun e w' => ∃ u, e = .returned (.int .i64 0) ∧ SxS w w' b n4 (ins [eG uG, eR uR] ⟨sxK, u, []⟩) plNew := SxS.card (HXK.out.1.keep g2) (HXK.out.2.keep g2) (by unfold Small; simp) (sx_caK uG uR)
  clear g2 HXK
  go_wp2_with fail
  refine DK.mono ?_
  rintro e w3_K ⟨uK, rfl, h3_K⟩
  have HSK : Hid (SxS w w3_K b n4 [eG uG, eR uR, eK uK] plNew) := by have q := h3_K; rwa [show ins [eG uG, eR uR] ⟨sxK, uK, []⟩ = [eG uG, eR uR, eK uK] from sx_inK uG uR uK] at q
  clear DK h3_K
  obtain ⟨XH, hXH⟩ : ∃ X, X = w3_K.alloc (.cells #[.int .u8 6, .int .u8 17, .int .u8 2, .int .i64 0, .int .u8 0, .int .u8 0, .int .u8 0, .string ⟨#[]⟩, .int .u8 6, .int .u8 18, .int .u8 1, .int .i64 0, .int .u8 0, .int .u8 0, .int .u8 0, .string ⟨#[]⟩] 38) := ⟨_, rfl⟩
  have HXH : Hid (SxS w XH b n4 [eG uG, eR uR, eK uK] plNew ∧ PsAt XH (.slice (some ⟨w3_K.heap.size, 0, none⟩) 2 2) [sxHp, sxHq]) := by rw [hXH]; exact ⟨HSK.out.keep (World.grownBy_alloc _ _ none), ps_lits rfl (alloc_at _ _ _)⟩
  have CH : Calls Tryz.prog 60 #[.string ⟨#[104, 111, 108, 108, 111, 119]⟩, .int .u8 5, .int .u8 3, .int .i64 0, .slice (some ⟨w3_K.heap.size, 0, none⟩) 2 2] XH fun e w' => e = .returned (.agg #[.string ⟨#[104, 111, 108, 108, 111, 119]⟩, .int .u8 5, .int .u8 3, .int .i64 0, .int .i64 0, .int .i64 0, .int .u16 0, .bool false, .slice (some ⟨w3_K.heap.size, 0, none⟩) 2 2]) ∧ XH.grownBy w' none := xcard_any _ _ _ _ _ _ _ _
  clear HSK
  go_wp2_with fail
  rw [← hXH]
  clear hXH
  refine CH.mono ?_
  rintro e w2_H ⟨rfl, g2⟩
  clear CH
  have DH : Calls Tryz.prog 59 #[.pointer (some ⟨b, 0, none⟩), .agg #[.string ⟨#[104, 111, 108, 108, 111, 119]⟩, .int .u8 5, .int .u8 3, .int .i64 0, .int .i64 0, .int .i64 0, .int .u16 0, .bool false, .slice (some ⟨w3_K.heap.size, 0, none⟩) 2 2]] w2_H fun e w' => ∃ u, e = .returned (.int .i64 0) ∧ SxS w w' b n4 (ins [eG uG, eR uR, eK uK] ⟨sxH, u, [sxHp, sxHq]⟩) plNew := SxS.card (HXH.out.1.keep g2) (HXH.out.2.keep g2) (by unfold Small; simp) (sx_caH uG uR uK)
  clear g2 HXH
  go_wp2_with fail
  refine DH.mono ?_
  rintro e w3_H ⟨uH, rfl, h3_H⟩
  have HSH : Hid (SxS w w3_H b n4 [eG uG, eR uR, eK uK, eH uH] plNew) := by have q := h3_H; rwa [show ins [eG uG, eR uR, eK uK] ⟨sxH, uH, [sxHp, sxHq]⟩ = [eG uG, eR uR, eK uK, eH uH] from sx_inH uG uR uK uH] at q
  clear DH h3_H
  have CS : Calls Tryz.prog 61 #[.pointer (some ⟨b, 0, none⟩)] w3_H fun e w' => e = .returned (.int .i64 0) ∧ Book (tgOk b) w' b (sxES uG uR uK uH) exP ∧ w3_H.grownBy w' (some b) := by
    have q := bseal (tgOk b) b (sxES uG uR uK uH) plNew w3_H HSH.out.bk (Nat.lt_irrefl _)
    rw [sx_seal, sx_shut] at q
    exact q
  go_wp2_with fail
  refine CS.mono ?_
  rintro e w7 ⟨rfl, B7, g7⟩
  have HB7 : Hid (Book (fun k => tgOk b k ∧ k < w7.heap.size) w7 b (sxES uG uR uK uH) exP ∧ w.grownBy w7 none ∧ b < w7.heap.size) := ⟨B7.oldL, (HSH.out.turn g7 B7).gr, B7.lt⟩
  clear CS B7 g7 HSH
  obtain ⟨Y, hY⟩ : ∃ Y, Y = w7.alloc (.cells #[.int .i64 2, .int .i64 0, .int .u8 4, .int .i64 1, .int .i64 0, .int .i64 0, .int .i64 0, .int .i64 0, .int .i64 0, .int .i64 0, .bool false, .int .i64 1, .int .i64 0, .int .u8 4, .int .i64 2, .int .i64 0, .int .i64 0, .int .i64 0, .int .i64 0, .int .i64 0, .int .i64 0, .bool false, .int .i64 4, .int .i64 1, .int .u8 4, .int .i64 3, .int .i64 0, .int .i64 0, .int .i64 0, .int .i64 0, .int .i64 0, .int .i64 0, .bool false, .int .i64 3, .int .i64 0, .int .u8 4, .int .i64 4, .int .i64 0, .int .i64 0, .int .i64 0, .int .i64 0, .int .i64 0, .int .i64 0, .bool false] 100) := ⟨_, rfl⟩
  have HY : Hid (Y.heap[w7.heap.size]? = some (.cells #[.int .i64 2, .int .i64 0, .int .u8 4, .int .i64 1, .int .i64 0, .int .i64 0, .int .i64 0, .int .i64 0, .int .i64 0, .int .i64 0, .bool false, .int .i64 1, .int .i64 0, .int .u8 4, .int .i64 2, .int .i64 0, .int .i64 0, .int .i64 0, .int .i64 0, .int .i64 0, .int .i64 0, .bool false, .int .i64 4, .int .i64 1, .int .u8 4, .int .i64 3, .int .i64 0, .int .i64 0, .int .i64 0, .int .i64 0, .int .i64 0, .int .i64 0, .bool false, .int .i64 3, .int .i64 0, .int .u8 4, .int .i64 4, .int .i64 0, .int .i64 0, .int .i64 0, .int .i64 0, .int .i64 0, .int .i64 0, .bool false] 100 (0, 0)) ∧ w7.grownBy Y none) := by rw [hY]; exact ⟨alloc_at _ _ _, World.grownBy_alloc _ _ none⟩
  go_upto_region 9 with fail
  rw [← hY]
  clear hY
  obtain ⟨S, hS⟩ : ∃ S, S = w7.heap.size := ⟨_, rfl⟩
  rw [← hS] at HY HB7 ⊢
  clear hS
  have rf := fun i => block_free HY.out.1 i
  have r18 : Y.cell? ⟨S, 18, none⟩ = some (.int .i64 0) := (block_cell HY.out.1 18).trans rfl
  go_upto_region 10 with fail
  obtain ⟨Z, hZ⟩ : ∃ Z, Z = Y.setCell ⟨S, 18, none⟩ (.int .i64 1) := ⟨_, rfl⟩
  rw [← hZ]
  have HZ : Hid (Z.heap[S]? = some (.cells (thR.cs sxT).toArray 100 (0, 0)) ∧ Y.grownBy Z (some S)) := by rw [hZ]; exact ⟨blk_setL HY.out.1 rfl, grown_set _ _ _ _⟩
  have HW : Hid (Book (fun k => tgOk b k ∧ k < S) Z b (sxES uG uR uK uH) exP ∧ w.grownBy Z none ∧ S < Z.heap.size) := by
    obtain ⟨h1, h2, h3⟩ := HB7.out
    have l := HBb.out
    exact ⟨(h1.keep HY.out.2).keepR HZ.out.2 (fun q => by cases q; omega) (fun k hk q => by cases q; exact Nat.lt_irrefl _ hk.2), grown_own (grown_trans h2 HY.out.2) HZ.out.2 (fun x e => by cases e; omega), block_lt HZ.out.1⟩
  clear hZ rf r18 HY
  obtain ⟨F, hF⟩ : ∃ F, F = Z.alloc (.cells #[.int .i64 0, .int .u8 2, .int .u16 0, .int .i64 0, .int .i64 0, .int .i64 0, .int .u8 2, .int .u16 0, .int .i64 0, .int .i64 5, .int .i64 1, .int .u8 5, .int .u16 0, .int .i64 0, .int .i64 0, .int .i64 0, .int .u8 2, .int .u16 0, .int .i64 0, .int .i64 1] 65) := ⟨_, rfl⟩
  have HF : Hid (F.heap[Z.heap.size]? = some (.cells (feR.cs sxF).toArray 65 (0, 0)) ∧ Z.grownBy F none) := by rw [hF]; exact ⟨alloc_at _ _ _, World.grownBy_alloc _ _ none⟩
  go_upto_region 11 with fail
  rw [← hF]
  clear hF
  obtain ⟨f, hf⟩ : ∃ f, f = Z.heap.size := ⟨_, rfl⟩
  have HSf : Hid (S ≤ f) := by have := HW.out.2.2; show _ ≤ _; omega
  rw [← hf] at HF ⊢
  clear hf
  go_wp2_with fail
  refine bodyPost_ret (v := .tuple #[.pointer (some ⟨b, 0, none⟩), .slice (some ⟨S, 0, none⟩) 4 4, .slice (some ⟨f, 0, none⟩) 4 4]) (by simp [results, Tryz.results9, go_sem]) rfl ?_
  exact ⟨uG, uR, uK, uH, S, S, f, rfl, HW.out.1.keep HF.out.2, sx_things S S F (Nat.le_refl _) (grown_keep HF.out.2 HZ.out.1 (by simp)), sx_feats S f F HSf.out HF.out.1, grown_trans HW.out.2.1 HF.out.2, by have := HBb.out; omega, HB7.out.2.2⟩
end Go.Proofs.YthfjgpjcepmnmaaGreat
