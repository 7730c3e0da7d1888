/-
  Swap's laws: two units, one of which takes one off the other's harm.
-/
import Derived.Test.YthfjgpjcepmnmaaGreatS44
namespace Go.Proofs.YthfjgpjcepmnmaaGreat
open Go.RowKit Go.Shelf

theorem eql_hp (x y : Hp) (w : World) : (binOp .eql 43 (.agg (hpa x)) (.agg (hpa y))).run Tryz.prog w = .ok (.bool (decide (x = y))) w := by
  rw [run_eql_struct, equalIn_hp]; rfl
def ryA : Hd := crd ⟨#[97, 105, 100]⟩ 1 1 2
def ryAp : Pt := ⟨6, 16, 8, 1, 0, 0, 0, ⟨#[]⟩⟩
def ryAq : Pt := ⟨6, 19, 1, 3, 0, 0, 0, ⟨#[]⟩⟩
def ryB : Hd := crd ⟨#[98, 111, 121]⟩ 1 1 2
def eA (v : Value) : Ent := ⟨ryA, v, [ryAp, ryAq]⟩
def eB (v : Value) : Ent := ⟨ryB, v, []⟩
theorem ry_caA : caE plNew [] (ryA.with [ryAp, ryAq]) = 0 := by
  show (if plNew.shut = true then (7 : Int) else if ¬ cchk (ryA.with [ryAp, ryAq]) = 0 then cchk (ryA.with [ryAp, ryAq]) else if 0 ≤ pos [] ryA.nm then 5 else if (0 : Nat) = 64 then 14 else 0) = 0
  decide +kernel
theorem ry_caB (vA : Value) : caE plNew [eA vA] (ryB.with []) = 0 := by
  show (if plNew.shut = true then (7 : Int) else if ¬ cchk (ryB.with []) = 0 then cchk (ryB.with []) else if 0 ≤ pos [ryA.nm] ryB.nm then 5 else if (1 : Nat) = 64 then 14 else 0) = 0
  decide +kernel
theorem ry_inB (vA vB : Value) : ins [eA vA] (eB vB) = [eA vA, eB vB] := by
  rw [ins_cons, if_pos (by show ord ryA ryB < 0; decide +kernel)]
  rfl
def ryES (vA vB : Value) : List Ent := [eA vA, eB vB]
theorem ry_seal (vA vB : Value) : sealE plNew (ryES vA vB) = 0 := by
  unfold sealE
  rw [if_neg (by decide)]
  simp [ryES, eA, eB, sealL, callsE, callE, ryAp, ryAq]
theorem ry_shut (vA vB : Value) : sealP plNew (ryES vA vB) = exP := if_pos (ry_seal vA vB)
def ryT : List Th := [⟨1, 0, 4, 1, 0, 0, 0, 0, 0, 0, false⟩, ⟨2, 0, 4, 2, 0, 0, 0, 0, 0, 0, false⟩]
def ryF : List Fe := [⟨0, 1, 0, 0, 2⟩, ⟨0, 1, 0, 0, 2⟩]
def ryCd : Int → Hd × List Pt := atC exP (ryES (.bool false) (.bool false))
theorem ry_cd (vA vB : Value) : atC exP (ryES vA vB) = ryCd := by
  funext n
  unfold ryCd atC
  split
  · generalize (n - 1).toNat = k
    match k with
    | 0 => rfl
    | 1 => rfl
    | k + 2 => rfl
  · rfl
def ryRw : List Rw := [⟨1, 1, ryA, [ryAp, ryAq]⟩, ⟨2, 2, ryB, []⟩]
def ryLs : List Sd := [⟨1, 0, ryAp⟩, ⟨1, 1, ryAq⟩]
theorem ry_sort : sortR ryRw = ryRw := List.mergeSort_of_pairwise (by unfold ryRw; simp)
theorem ry_tab : tabR 2 ryCd ryT ryF = some ryRw := by
  unfold tabR
  rw [if_pos (by decide), show layF 2 ryCd (ryT.zip ryF) 0 [] = some ryRw from by kernel_rfl]
  simp only [ry_sort]
  rw [if_pos (by decide)]
theorem ry_ls : swL ryRw ryF = ryLs := by kernel_rfl
def ryV (h : Hp) : Ss := if noHarm h = true then Ss.none else if (decide (h.vb = 1) && shlB ryCd ryT h.on) = true then ⟨Hp.none, [], 1, 0⟩ else allQ ryCd ryT ryF ryLs h (leftN ryLs []) (Ss.begin h)
theorem ry_val {h : Hp} (hm : hpMay ryT h = true) : laE 0 2 ryCd ryT ryF h = 0 ∧ allT 0 2 ryCd ryT ryF h = ryV h := by
  have hb := bgE_ok ry_tab (k := 1) (by decide)
  have e : laE 0 2 ryCd ryT ryF h = 0 := by unfold laE; rw [if_pos hb, if_pos hm]
  refine ⟨e, ?_⟩
  unfold allT ryV
  rw [if_neg (fun q => q e), swT_ok hb ry_tab, ry_ls]
  rfl
theorem ry_x : laE 0 2 ryCd ryT ryF ⟨1, 1, 2, 0, false, false⟩ = 0 ∧ allT 0 2 ryCd ryT ryF ⟨1, 1, 2, 0, false, false⟩ = ⟨⟨1, 1, 2, 0, false, false⟩, [], 0, 0⟩ := by
  have h := ry_val (h := ⟨1, 1, 2, 0, false, false⟩) (by decide)
  exact ⟨h.1, h.2.trans (by kernel_rfl)⟩
theorem ry_y : laE 0 2 ryCd ryT ryF ⟨1, 2, 2, 0, false, false⟩ = 0 ∧ allT 0 2 ryCd ryT ryF ⟨1, 2, 2, 0, false, false⟩ = ⟨⟨1, 2, 1, 0, false, false⟩, [⟨1, 0, ryAp⟩], 0, 0⟩ := by
  have h := ry_val (h := ⟨1, 2, 2, 0, false, false⟩) (by decide)
  exact ⟨h.1, h.2.trans (by kernel_rfl)⟩
theorem ry_z : laE 0 2 ryCd ryT ryF ⟨3, -1, 0, 0, false, false⟩ = 0 ∧ allT 0 2 ryCd ryT ryF ⟨3, -1, 0, 0, false, false⟩ = ⟨⟨0, 0, 0, 0, false, false⟩, [⟨1, 1, ryAq⟩], 0, 3⟩ := by
  have h := ry_val (h := ⟨3, -1, 0, 0, false, false⟩) (by decide)
  exact ⟨h.1, h.2.trans (by kernel_rfl)⟩
theorem ry_v : laE 0 2 ryCd ryT ryF ⟨3, -2, 0, 0, false, false⟩ = 0 ∧ allT 0 2 ryCd ryT ryF ⟨3, -2, 0, 0, false, false⟩ = ⟨⟨3, -2, 0, 0, false, false⟩, [], 0, 0⟩ := by
  have h := ry_val (h := ⟨3, -2, 0, 0, false, false⟩) (by decide)
  exact ⟨h.1, h.2.trans (by kernel_rfl)⟩
theorem ryall_at (h : Hp) (X : Ss) (hX : laE 0 2 ryCd ryT ryF h = 0 ∧ allT 0 2 ryCd ryT ryF h = X) {W : World} {b g f : Nat} (I : SIn W (.pointer (some ⟨b, 0, none⟩)) (.slice (some ⟨g, 0, none⟩) 2 2) (.slice (some ⟨f, 0, none⟩) 2 2) 0 2 ryCd ryT ryF) : Calls Tryz.prog 13 #[.pointer (some ⟨b, 0, none⟩), .slice (some ⟨g, 0, none⟩) 2 2, .slice (some ⟨f, 0, none⟩) 2 2, hpv h] W fun e w' => ∃ p c, e = .returned (.tuple #[swdv X.af (.slice p X.us.length c) X.go X.li, .int .i64 0]) ∧ sdR.At w' (.slice p X.us.length c) X.us ∧ W.grownBy w' none := by
  refine (sAll_any _ _ _ 0 2 ryCd ryT ryF h W I ⟨_, rfl⟩).mono ?_
  rintro e w' ⟨p, m, c, rfl, O, g⟩
  rw [hX.2] at O ⊢
  rw [hX.1]
  obtain ⟨p2, c2, e2⟩ := O.form
  injection e2 with e3 e4 e5
  subst e4
  exact ⟨p, c, rfl, RecT.Own.at O, g⟩
structure RyS (w wr : World) (b : Nat) (es : List Ent) (p : Pl) : Prop where
  bk : Book (tgOk b) wr b es p
  gr : w.grownBy wr none
  lie : w.heap.size ≤ b
theorem RyS.keep {w wr w' : World} {b : Nat} {es : List Ent} {p : Pl} (h : RyS w wr b es p) (g : wr.grownBy w' none) : RyS w w' b es p := ⟨h.bk.keep g, grown_trans h.gr g, h.lie⟩
theorem RyS.turn {w wr w' : World} {b : Nat} {es es' : List Ent} {p p' : Pl} (h : RyS w wr b es p) (g : wr.grownBy w' (some b)) (B : Book (tgOk b) w' b es' p') : RyS w w' b es' p' := ⟨B, grown_own h.gr g (fun x e => by cases e; exact h.lie), h.lie⟩
theorem RyS.card {w wr : World} {b : Nat} {es : List Ent} {h : Hd} {v : Value} {ps : List Pt} (H : RyS w wr b es plNew) (hp : PsAt wr v ps) (hm : Small ps.length) (hc : caE plNew es (h.with ps) = 0) : Calls Tryz.prog 59 #[.pointer (some ⟨b, 0, none⟩), cv h v] wr fun e w' => ∃ u, e = .returned (.int .i64 0) ∧ RyS w w' b (ins es ⟨h, u, ps⟩) plNew := by
  have q := bcard (tgOk b) b es plNew h v ps wr H.bk (Nat.lt_irrefl _) (fun k hk => by show b < k; have := H.bk.lt; omega) hp hm
  rw [hc] at q
  exact q.mono fun e w' ⟨u, e1, B, g⟩ => ⟨u, e1, H.turn g B⟩
theorem ry_things (S : Nat) (g : Nat) (W : World) (hS : S ≤ g) (h : W.heap[g]? = some (.cells (thR.cs ryT).toArray 100 (0, 0))) : thR.Own 100 W S (.slice (some ⟨g, 0, none⟩) 2 2) ryT := ⟨rfl, Or.inr ⟨g, 2, _, rfl, hS, h, Nat.le_refl _, (by unfold maxLen; decide), rfl, rfl⟩⟩
theorem ry_feats (S : Nat) (g : Nat) (W : World) (hS : S ≤ g) (h : W.heap[g]? = some (.cells (feR.cs ryF).toArray 65 (0, 0))) : feR.Own 65 W S (.slice (some ⟨g, 0, none⟩) 2 2) ryF := ⟨rfl, Or.inr ⟨g, 2, _, rfl, hS, h, Nat.le_refl _, (by unfold maxLen; decide), rfl, rfl⟩⟩
theorem ry_in {ok : Nat → Prop} {W : World} {b g f : Nat} {vA vB : Value} (B : Book ok W b (ryES vA vB) exP) (T : thR.At W (.slice (some ⟨g, 0, none⟩) 2 2) ryT) (F : feR.At W (.slice (some ⟨f, 0, none⟩) 2 2) ryF) : SIn W (.pointer (some ⟨b, 0, none⟩)) (.slice (some ⟨g, 0, none⟩) 2 2) (.slice (some ⟨f, 0, none⟩) 2 2) 0 2 ryCd ryT ryF := by
  have h := SIn.of B T F (by decide)
  rw [ry_cd] at h
  exact h
set_option maxRecDepth 100000 in
set_option maxHeartbeats 4000000 in
theorem sxrest_any (w : World) : Calls Tryz.prog 15 #[] w fun e w' => e = .returned (.bool true) ∧ w.grownBy w' none := by
  have hnq := eql_hp
  have hgq := eqg_hp
  unfold hpa at hnq
  have HN := bnew (tgOk w.heap.size) w
  obtain ⟨b, hb⟩ : ∃ b, b = w.heap.size := ⟨_, rfl⟩
  have HBb : Hid (b = w.heap.size) := hb
  rw [← hb] at HN
  clear hb
  go_enter Tryz.func15, Tryz.ntmps15
  go_wp2_with fail
  refine HN.mono ?_
  rintro e w1 ⟨rfl, B1, g1, hz1⟩
  have HS1 : Hid (RyS w w1 b [] plNew) := ⟨B1, g1, by have := HBb.out; omega⟩
  clear HN B1 g1 hz1
  obtain ⟨X, hX⟩ : ∃ X, X = w1.alloc (.cells #[.int .u8 6, .int .u8 16, .int .u8 8, .int .i64 1, .int .u8 0, .int .u8 0, .int .u8 0, .string ⟨#[]⟩, .int .u8 6, .int .u8 19, .int .u8 1, .int .i64 3, .int .u8 0, .int .u8 0, .int .u8 0, .string ⟨#[]⟩] 38) := ⟨_, rfl⟩
  have HX : Hid (RyS w X b [] plNew ∧ PsAt X (.slice (some ⟨w1.heap.size, 0, none⟩) 2 2) [ryAp, ryAq]) := by rw [hX]; exact ⟨HS1.out.keep (World.grownBy_alloc _ _ none), ps_lits rfl (alloc_at _ _ _)⟩
  have CA : Calls Tryz.prog 60 #[.string ⟨#[97, 105, 100]⟩, .int .u8 1, .int .u8 1, .int .i64 2, .slice (some ⟨w1.heap.size, 0, none⟩) 2 2] X fun e w' => e = .returned (.agg #[.string ⟨#[97, 105, 100]⟩, .int .u8 1, .int .u8 1, .int .i64 0, .int .i64 0, .int .i64 2, .int .u16 0, .bool false, .slice (some ⟨w1.heap.size, 0, none⟩) 2 2]) ∧ X.grownBy w' none := xcard_any _ _ _ _ _ _ _ _
  go_wp2_with fail
  rw [← hX]
  clear hX HS1
  refine CA.mono ?_
  rintro e w2_A ⟨rfl, g2⟩
  clear CA
  have DA : Calls Tryz.prog 59 #[.pointer (some ⟨b, 0, none⟩), .agg #[.string ⟨#[97, 105, 100]⟩, .int .u8 1, .int .u8 1, .int .i64 0, .int .i64 0, .int .i64 2, .int .u16 0, .bool false, .slice (some ⟨w1.heap.size, 0, none⟩) 2 2]] w2_A fun e w' => ∃ u, e = .returned (.int .i64 0) ∧ RyS w w' b (ins [] ⟨ryA, u, [ryAp, ryAq]⟩) plNew := RyS.card (HX.out.1.keep g2) (HX.out.2.keep g2) (by unfold Small; simp) (ry_caA)
  clear g2 HX
  go_wp2_with fail
  refine DA.mono ?_
  rintro e w3_A ⟨uA, rfl, h3_A⟩
  have HSA : Hid (RyS w w3_A b [eA uA] plNew) := show RyS w w3_A b (ins [] (eA uA)) plNew from h3_A
  clear DA h3_A
  have HXB : Hid (RyS w w3_A b [eA uA] plNew ∧ PsAt w3_A (.slice none 0 0) []) := ⟨HSA.out, Or.inl ⟨rfl, rfl⟩⟩
  clear HSA
  have CB : Calls Tryz.prog 60 #[.string ⟨#[98, 111, 121]⟩, .int .u8 1, .int .u8 1, .int .i64 2, .slice none 0 0] w3_A fun e w' => e = .returned (.agg #[.string ⟨#[98, 111, 121]⟩, .int .u8 1, .int .u8 1, .int .i64 0, .int .i64 0, .int .i64 2, .int .u16 0, .bool false, .slice none 0 0]) ∧ w3_A.grownBy w' none := xcard_any _ _ _ _ _ _ _ _
  go_wp2_with fail
  refine CB.mono ?_
  rintro e w2_B ⟨rfl, g2⟩
  clear CB
  have DB : Calls Tryz.prog 59 #[.pointer (some ⟨b, 0, none⟩), .agg #[.string ⟨#[98, 111, 121]⟩, .int .u8 1, .int .u8 1, .int .i64 0, .int .i64 0, .int .i64 2, .int .u16 0, .bool false, .slice none 0 0]] w2_B fun e w' => ∃ u, e = .returned (.int .i64 0) ∧ RyS w w' b (ins [eA uA] ⟨ryB, u, []⟩) plNew := RyS.card (HXB.out.1.keep g2) (HXB.out.2.keep g2) (by unfold Small; simp) (ry_caB uA)
  clear g2 HXB
  go_wp2_with fail
  refine DB.mono ?_
  rintro e w3_B ⟨uB, rfl, h3_B⟩
  have HSB : Hid (RyS w w3_B b (ryES uA uB) plNew) := by have q := h3_B; rwa [show ins [eA uA] ⟨ryB, uB, []⟩ = ryES uA uB from ry_inB uA uB] at q
  clear DB h3_B
  have CS : Calls Tryz.prog 61 #[.pointer (some ⟨b, 0, none⟩)] w3_B fun e w' => e = .returned (.int .i64 0) ∧ Book (tgOk b) w' b (ryES uA uB) exP ∧ w3_B.grownBy w' (some b) := by
    have q := bseal (tgOk b) b (ryES uA uB) plNew w3_B HSB.out.bk (Nat.lt_irrefl _)
    rw [ry_seal, ry_shut] at q
    exact q
  go_wp2_with fail
  refine CS.mono ?_
  rintro e w7 ⟨rfl, B7, g7⟩
  have HB7 : Hid (Book (tgOk b) w7 b (ryES uA uB) exP ∧ w.grownBy w7 none) := ⟨B7, (HSB.out.turn g7 B7).gr⟩
  clear CS B7 g7 HSB
  obtain ⟨Y, hY⟩ : ∃ Y, Y = w7.alloc (.cells #[.int .i64 1, .int .i64 0, .int .u8 4, .int .i64 1, .int .i64 0, .int .i64 0, .int .i64 0, .int .i64 0, .int .i64 0, .int .i64 0, .bool false, .int .i64 2, .int .i64 0, .int .u8 4, .int .i64 2, .int .i64 0, .int .i64 0, .int .i64 0, .int .i64 0, .int .i64 0, .int .i64 0, .bool false] 100) := ⟨_, rfl⟩
  have HY : Hid (Book (tgOk b) Y b (ryES uA uB) exP ∧ w.grownBy Y none ∧ Y.heap[w7.heap.size]? = some (.cells #[.int .i64 1, .int .i64 0, .int .u8 4, .int .i64 1, .int .i64 0, .int .i64 0, .int .i64 0, .int .i64 0, .int .i64 0, .int .i64 0, .bool false, .int .i64 2, .int .i64 0, .int .u8 4, .int .i64 2, .int .i64 0, .int .i64 0, .int .i64 0, .int .i64 0, .int .i64 0, .int .i64 0, .bool false] 100 (0, 0))) := by rw [hY]; exact ⟨HB7.out.1.keep (World.grownBy_alloc _ _ none), grown_push HB7.out.2 _, alloc_at _ _ _⟩
  clear HB7
  go_upto_region 6 with fail
  rw [← hY]
  clear hY
  obtain ⟨g, hg⟩ : ∃ g, g = w7.heap.size := ⟨_, rfl⟩
  rw [← hg] at HY ⊢
  clear hg
  obtain ⟨Z, hZ⟩ : ∃ Z, Z = Y.alloc (.cells #[.int .i64 0, .int .u8 1, .int .u16 0, .int .i64 0, .int .i64 2, .int .i64 0, .int .u8 1, .int .u16 0, .int .i64 0, .int .i64 2] 65) := ⟨_, rfl⟩
  have HZ : Hid (SIn Z (.pointer (some ⟨b, 0, none⟩)) (.slice (some ⟨g, 0, none⟩) 2 2) (.slice (some ⟨Y.heap.size, 0, none⟩) 2 2) 0 2 ryCd ryT ryF ∧ w.grownBy Z none) := by
    have k : Y.grownBy Z none := by rw [hZ]; exact World.grownBy_alloc _ _ none
    exact ⟨ry_in (HY.out.1.keep k) (RecT.Own.at (ry_things g g Z (Nat.le_refl _) (grown_keep k HY.out.2.2 (by simp)))) (RecT.Own.at (ry_feats Y.heap.size _ Z (Nat.le_refl _) (by rw [hZ]; exact alloc_at _ _ _))), grown_trans HY.out.2.1 k⟩
  clear HY
  go_upto_region 7 with fail
  rw [← hZ]
  clear hZ
  obtain ⟨f, hf⟩ : ∃ f, f = Y.heap.size := ⟨_, rfl⟩
  rw [← hf] at HZ ⊢
  clear hf
  have Cx : Calls Tryz.prog 13 #[.pointer (some ⟨b, 0, none⟩), .slice (some ⟨g, 0, none⟩) 2 2, .slice (some ⟨f, 0, none⟩) 2 2, .agg #[.int .u8 1, .int .i64 1, .int .i64 2, .int .i64 0, .bool false, .bool false]] Z fun e w' => ∃ p c, e = .returned (.tuple #[.agg #[.int .u8 1, .int .i64 1, .int .i64 2, .int .i64 0, .bool false, .bool false, .slice p 0 c, .int .i64 0, .int .i64 0], .int .i64 0]) ∧ sdR.At w' (.slice p 0 c) [] ∧ Z.grownBy w' none := ryall_at _ _ ry_x HZ.out.1
  go_wp2_with fail
  refine Cx.mono ?_
  rintro e ax ⟨px, cx, rfl, Ax, gx⟩
  obtain ⟨Vx, hVx⟩ : ∃ V, V = ax.alloc (.cells #[.int .u8 1, .int .i64 1, .int .i64 2, .int .i64 0, .bool false, .bool false, .slice px 0 cx, .int .i64 0, .int .i64 0] 45) := ⟨_, rfl⟩
  have HGx : Hid (Z.grownBy Vx none) := by rw [hVx]; exact grown_push gx _
  have HBx : Hid (SwB Vx ax.heap.size ⟨1, 1, 2, 0, false, false⟩ (.slice px 0 cx) 0 0 ∧ sdR.At Vx (.slice px 0 cx) []) := by
    have q : ax.grownBy Vx none := by rw [hVx]; exact World.grownBy_alloc _ _ none
    exact ⟨by rw [hVx]; exact alloc_at _ _ _, Ax.keep q⟩
  have HZx : Hid (SIn Vx (.pointer (some ⟨b, 0, none⟩)) (.slice (some ⟨g, 0, none⟩) 2 2) (.slice (some ⟨f, 0, none⟩) 2 2) 0 2 ryCd ryT ryF ∧ w.grownBy Vx none) := ⟨HZ.out.1.keep HGx.out, grown_trans HZ.out.2 HGx.out⟩
  clear Cx Ax gx HZ
  go_upto_region 8 with fail
  rw [← hVx]
  clear hVx
  obtain ⟨nx, hnx⟩ : ∃ n, n = ax.heap.size := ⟨_, rfl⟩
  rw [← hnx] at HBx ⊢
  clear hnx
  have Cy : Calls Tryz.prog 13 #[.pointer (some ⟨b, 0, none⟩), .slice (some ⟨g, 0, none⟩) 2 2, .slice (some ⟨f, 0, none⟩) 2 2, .agg #[.int .u8 1, .int .i64 2, .int .i64 2, .int .i64 0, .bool false, .bool false]] Vx fun e w' => ∃ p c, e = .returned (.tuple #[.agg #[.int .u8 1, .int .i64 2, .int .i64 1, .int .i64 0, .bool false, .bool false, .slice p 1 c, .int .i64 0, .int .i64 0], .int .i64 0]) ∧ sdR.At w' (.slice p 1 c) [⟨1, 0, ryAp⟩] ∧ Vx.grownBy w' none := ryall_at _ _ ry_y HZx.out.1
  go_wp2_with fail
  refine Cy.mono ?_
  rintro e ay ⟨py, cy, rfl, Ay, gy⟩
  obtain ⟨Vy, hVy⟩ : ∃ V, V = ay.alloc (.cells #[.int .u8 1, .int .i64 2, .int .i64 1, .int .i64 0, .bool false, .bool false, .slice py 1 cy, .int .i64 0, .int .i64 0] 45) := ⟨_, rfl⟩
  have HGy : Hid (Vx.grownBy Vy none) := by rw [hVy]; exact grown_push gy _
  have HBy : Hid (SwB Vy ay.heap.size ⟨1, 2, 1, 0, false, false⟩ (.slice py 1 cy) 0 0 ∧ sdR.At Vy (.slice py 1 cy) [⟨1, 0, ryAp⟩]) := by
    have q : ay.grownBy Vy none := by rw [hVy]; exact World.grownBy_alloc _ _ none
    exact ⟨by rw [hVy]; exact alloc_at _ _ _, Ay.keep q⟩
  have HZy : Hid (SIn Vy (.pointer (some ⟨b, 0, none⟩)) (.slice (some ⟨g, 0, none⟩) 2 2) (.slice (some ⟨f, 0, none⟩) 2 2) 0 2 ryCd ryT ryF ∧ w.grownBy Vy none) := ⟨HZx.out.1.keep HGy.out, grown_trans HZx.out.2 HGy.out⟩
  clear Cy Ay gy HZx
  go_upto_region 9 with fail
  rw [← hVy]
  clear hVy
  obtain ⟨ny, hny⟩ : ∃ n, n = ay.heap.size := ⟨_, rfl⟩
  rw [← hny] at HBy ⊢
  clear hny
  have HBx : Hid (SwB Vy nx ⟨1, 1, 2, 0, false, false⟩ (.slice px 0 cx) 0 0 ∧ sdR.At Vy (.slice px 0 cx) []) := ⟨grown_keep HGy.out HBx.out.1 (by simp), HBx.out.2.keep HGy.out⟩
  have Cz : Calls Tryz.prog 13 #[.pointer (some ⟨b, 0, none⟩), .slice (some ⟨g, 0, none⟩) 2 2, .slice (some ⟨f, 0, none⟩) 2 2, .agg #[.int .u8 3, .int .i64 (-1), .int .i64 0, .int .i64 0, .bool false, .bool false]] Vy fun e w' => ∃ p c, e = .returned (.tuple #[.agg #[.int .u8 0, .int .i64 0, .int .i64 0, .int .i64 0, .bool false, .bool false, .slice p 1 c, .int .i64 0, .int .i64 3], .int .i64 0]) ∧ sdR.At w' (.slice p 1 c) [⟨1, 1, ryAq⟩] ∧ Vy.grownBy w' none := ryall_at _ _ ry_z HZy.out.1
  go_wp2_with fail
  refine Cz.mono ?_
  rintro e az ⟨pz, cz, rfl, Az, gz⟩
  obtain ⟨Vz, hVz⟩ : ∃ V, V = az.alloc (.cells #[.int .u8 0, .int .i64 0, .int .i64 0, .int .i64 0, .bool false, .bool false, .slice pz 1 cz, .int .i64 0, .int .i64 3] 45) := ⟨_, rfl⟩
  have HGz : Hid (Vy.grownBy Vz none) := by rw [hVz]; exact grown_push gz _
  have HBz : Hid (SwB Vz az.heap.size ⟨0, 0, 0, 0, false, false⟩ (.slice pz 1 cz) 0 3 ∧ sdR.At Vz (.slice pz 1 cz) [⟨1, 1, ryAq⟩]) := by
    have q : az.grownBy Vz none := by rw [hVz]; exact World.grownBy_alloc _ _ none
    exact ⟨by rw [hVz]; exact alloc_at _ _ _, Az.keep q⟩
  have HZz : Hid (SIn Vz (.pointer (some ⟨b, 0, none⟩)) (.slice (some ⟨g, 0, none⟩) 2 2) (.slice (some ⟨f, 0, none⟩) 2 2) 0 2 ryCd ryT ryF ∧ w.grownBy Vz none) := ⟨HZy.out.1.keep HGz.out, grown_trans HZy.out.2 HGz.out⟩
  clear Cz Az gz HZy
  go_upto_region 10 with fail
  rw [← hVz]
  clear hVz
  obtain ⟨nz, hnz⟩ : ∃ n, n = az.heap.size := ⟨_, rfl⟩
  rw [← hnz] at HBz ⊢
  clear hnz
  have HBx : Hid (SwB Vz nx ⟨1, 1, 2, 0, false, false⟩ (.slice px 0 cx) 0 0 ∧ sdR.At Vz (.slice px 0 cx) []) := ⟨grown_keep HGz.out HBx.out.1 (by simp), HBx.out.2.keep HGz.out⟩
  have HBy : Hid (SwB Vz ny ⟨1, 2, 1, 0, false, false⟩ (.slice py 1 cy) 0 0 ∧ sdR.At Vz (.slice py 1 cy) [⟨1, 0, ryAp⟩]) := ⟨grown_keep HGz.out HBy.out.1 (by simp), HBy.out.2.keep HGz.out⟩
  have Cv : Calls Tryz.prog 13 #[.pointer (some ⟨b, 0, none⟩), .slice (some ⟨g, 0, none⟩) 2 2, .slice (some ⟨f, 0, none⟩) 2 2, .agg #[.int .u8 3, .int .i64 (-2), .int .i64 0, .int .i64 0, .bool false, .bool false]] Vz fun e w' => ∃ p c, e = .returned (.tuple #[.agg #[.int .u8 3, .int .i64 (-2), .int .i64 0, .int .i64 0, .bool false, .bool false, .slice p 0 c, .int .i64 0, .int .i64 0], .int .i64 0]) ∧ sdR.At w' (.slice p 0 c) [] ∧ Vz.grownBy w' none := ryall_at _ _ ry_v HZz.out.1
  go_wp2_with fail
  refine Cv.mono ?_
  rintro e av ⟨pvv, cvv, rfl, Av, gv⟩
  obtain ⟨Vv, hVv⟩ : ∃ V, V = av.alloc (.cells #[.int .u8 3, .int .i64 (-2), .int .i64 0, .int .i64 0, .bool false, .bool false, .slice pvv 0 cvv, .int .i64 0, .int .i64 0] 45) := ⟨_, rfl⟩
  have HGv : Hid (Vz.grownBy Vv none) := by rw [hVv]; exact grown_push gv _
  have HBv : Hid (SwB Vv av.heap.size ⟨3, -2, 0, 0, false, false⟩ (.slice pvv 0 cvv) 0 0 ∧ sdR.At Vv (.slice pvv 0 cvv) []) := by
    have q : av.grownBy Vv none := by rw [hVv]; exact World.grownBy_alloc _ _ none
    exact ⟨by rw [hVv]; exact alloc_at _ _ _, Av.keep q⟩
  have HZv : Hid (SIn Vv (.pointer (some ⟨b, 0, none⟩)) (.slice (some ⟨g, 0, none⟩) 2 2) (.slice (some ⟨f, 0, none⟩) 2 2) 0 2 ryCd ryT ryF ∧ w.grownBy Vv none) := ⟨HZz.out.1.keep HGv.out, grown_trans HZz.out.2 HGv.out⟩
  clear Cv Av gv HZz
  go_upto_region 11 with fail
  rw [← hVv]
  clear hVv
  obtain ⟨nv, hnv⟩ : ∃ n, n = av.heap.size := ⟨_, rfl⟩
  rw [← hnv] at HBv ⊢
  clear hnv
  have HBx : Hid (SwB Vv nx ⟨1, 1, 2, 0, false, false⟩ (.slice px 0 cx) 0 0 ∧ sdR.At Vv (.slice px 0 cx) []) := ⟨grown_keep HGv.out HBx.out.1 (by simp), HBx.out.2.keep HGv.out⟩
  have HBy : Hid (SwB Vv ny ⟨1, 2, 1, 0, false, false⟩ (.slice py 1 cy) 0 0 ∧ sdR.At Vv (.slice py 1 cy) [⟨1, 0, ryAp⟩]) := ⟨grown_keep HGv.out HBy.out.1 (by simp), HBy.out.2.keep HGv.out⟩
  have HBz : Hid (SwB Vv nz ⟨0, 0, 0, 0, false, false⟩ (.slice pz 1 cz) 0 3 ∧ sdR.At Vv (.slice pz 1 cz) [⟨1, 1, ryAq⟩]) := ⟨grown_keep HGv.out HBz.out.1 (by simp), HBz.out.2.keep HGv.out⟩
  obtain ⟨x0, x1, x2, x3, x4, x5, x6, x7, x8⟩ := sw_box HBx.out.1
  have Ix : Calls Tryz.prog 11 #[.agg #[.int .u8 1, .int .i64 1, .int .i64 2, .int .i64 0, .bool false, .bool false, .slice px 0 cx, .int .i64 0, .int .i64 0], .int .u8 1, .int .i64 1, .int .i64 2, .int .i64 0, .slice none 0 0] Vv fun e w' => e = .returned (.bool true) ∧ Vv.grownBy w' none := sxis_any 1 1 2 0 px none 0 cx 0 0 [] Vv HBx.out.2 (us_nil _) rfl rfl (by decide)
  go_wp2_with fail
  refine Ix.mono ?_
  rintro e s1 ⟨rfl, q1⟩
  have HQ1 : Hid (Vv.grownBy s1 none ∧ w.grownBy s1 none) := ⟨q1, grown_trans HZv.out.2 q1⟩
  clear Ix q1 x0 x1 x2 x3 x4 x5 x6 x7 x8
  have HBx : Hid (SwB s1 nx ⟨1, 1, 2, 0, false, false⟩ (.slice px 0 cx) 0 0 ∧ sdR.At s1 (.slice px 0 cx) []) := ⟨grown_keep HQ1.out.1 HBx.out.1 (by simp), HBx.out.2.keep HQ1.out.1⟩
  have HBy : Hid (SwB s1 ny ⟨1, 2, 1, 0, false, false⟩ (.slice py 1 cy) 0 0 ∧ sdR.At s1 (.slice py 1 cy) [⟨1, 0, ryAp⟩]) := ⟨grown_keep HQ1.out.1 HBy.out.1 (by simp), HBy.out.2.keep HQ1.out.1⟩
  have HBz : Hid (SwB s1 nz ⟨0, 0, 0, 0, false, false⟩ (.slice pz 1 cz) 0 3 ∧ sdR.At s1 (.slice pz 1 cz) [⟨1, 1, ryAq⟩]) := ⟨grown_keep HQ1.out.1 HBz.out.1 (by simp), HBz.out.2.keep HQ1.out.1⟩
  have HBv : Hid (SwB s1 nv ⟨3, -2, 0, 0, false, false⟩ (.slice pvv 0 cvv) 0 0 ∧ sdR.At s1 (.slice pvv 0 cvv) []) := ⟨grown_keep HQ1.out.1 HBv.out.1 (by simp), HBv.out.2.keep HQ1.out.1⟩
  obtain ⟨S2, hS2⟩ : ∃ S, S = s1.alloc (.cells #[.int .i64 1, .int .i64 0] 3) := ⟨_, rfl⟩
  have HQ2 : Hid (s1.grownBy S2 none ∧ w.grownBy S2 none) := by rw [hS2]; exact ⟨World.grownBy_alloc _ _ none, grown_push HQ1.out.2 _⟩
  have Iy : Calls Tryz.prog 11 #[.agg #[.int .u8 1, .int .i64 2, .int .i64 1, .int .i64 0, .bool false, .bool false, .slice py 1 cy, .int .i64 0, .int .i64 0], .int .u8 1, .int .i64 2, .int .i64 1, .int .i64 0, .slice (some ⟨s1.heap.size, 0, none⟩) 2 2] S2 fun e w' => e = .returned (.bool true) ∧ S2.grownBy w' none := sxis_any 1 2 1 0 py _ 1 cy 2 2 [⟨1, 0, ryAp⟩] S2 (HBy.out.2.keep HQ2.out.1) (us_lit (L := [⟨1, 0, ryAp⟩]) (by rw [hS2]; exact alloc_at _ _ _) rfl) rfl rfl (by decide)
  obtain ⟨x0, x1, x2, x3, x4, x5, x6, x7, x8⟩ := sw_box HBy.out.1
  go_wp2_with fail
  rw [← hS2]
  clear hS2
  refine Iy.mono ?_
  rintro e s3 ⟨rfl, q3⟩
  have HQ3 : Hid (s1.grownBy s3 none ∧ w.grownBy s3 none) := ⟨grown_trans HQ2.out.1 q3, grown_trans HQ2.out.2 q3⟩
  clear Iy q3 x0 x1 x2 x3 x4 x5 x6 x7 x8
  have HBx : Hid (SwB s3 nx ⟨1, 1, 2, 0, false, false⟩ (.slice px 0 cx) 0 0 ∧ sdR.At s3 (.slice px 0 cx) []) := ⟨grown_keep HQ3.out.1 HBx.out.1 (by simp), HBx.out.2.keep HQ3.out.1⟩
  have HBy : Hid (SwB s3 ny ⟨1, 2, 1, 0, false, false⟩ (.slice py 1 cy) 0 0 ∧ sdR.At s3 (.slice py 1 cy) [⟨1, 0, ryAp⟩]) := ⟨grown_keep HQ3.out.1 HBy.out.1 (by simp), HBy.out.2.keep HQ3.out.1⟩
  have HBz : Hid (SwB s3 nz ⟨0, 0, 0, 0, false, false⟩ (.slice pz 1 cz) 0 3 ∧ sdR.At s3 (.slice pz 1 cz) [⟨1, 1, ryAq⟩]) := ⟨grown_keep HQ3.out.1 HBz.out.1 (by simp), HBz.out.2.keep HQ3.out.1⟩
  have HBv : Hid (SwB s3 nv ⟨3, -2, 0, 0, false, false⟩ (.slice pvv 0 cvv) 0 0 ∧ sdR.At s3 (.slice pvv 0 cvv) []) := ⟨grown_keep HQ3.out.1 HBv.out.1 (by simp), HBv.out.2.keep HQ3.out.1⟩
  obtain ⟨x0, x1, x2, x3, x4, x5, x6, x7, x8⟩ := sw_box HBv.out.1
  have Iv : Calls Tryz.prog 11 #[.agg #[.int .u8 3, .int .i64 (-2), .int .i64 0, .int .i64 0, .bool false, .bool false, .slice pvv 0 cvv, .int .i64 0, .int .i64 0], .int .u8 3, .int .i64 (-2), .int .i64 0, .int .i64 0, .slice none 0 0] s3 fun e w' => e = .returned (.bool true) ∧ s3.grownBy w' none := sxis_any 3 (-2) 0 0 pvv none 0 cvv 0 0 [] s3 HBv.out.2 (us_nil _) rfl rfl (by decide)
  go_wp2_with fail
  refine Iv.mono ?_
  rintro e s4 ⟨rfl, q4⟩
  have HQ4 : Hid (s3.grownBy s4 none ∧ w.grownBy s4 none) := ⟨q4, grown_trans HQ3.out.2 q4⟩
  clear Iv q4 x0 x1 x2 x3 x4 x5 x6 x7 x8
  have HBx : Hid (SwB s4 nx ⟨1, 1, 2, 0, false, false⟩ (.slice px 0 cx) 0 0 ∧ sdR.At s4 (.slice px 0 cx) []) := ⟨grown_keep HQ4.out.1 HBx.out.1 (by simp), HBx.out.2.keep HQ4.out.1⟩
  have HBy : Hid (SwB s4 ny ⟨1, 2, 1, 0, false, false⟩ (.slice py 1 cy) 0 0 ∧ sdR.At s4 (.slice py 1 cy) [⟨1, 0, ryAp⟩]) := ⟨grown_keep HQ4.out.1 HBy.out.1 (by simp), HBy.out.2.keep HQ4.out.1⟩
  have HBz : Hid (SwB s4 nz ⟨0, 0, 0, 0, false, false⟩ (.slice pz 1 cz) 0 3 ∧ sdR.At s4 (.slice pz 1 cz) [⟨1, 1, ryAq⟩]) := ⟨grown_keep HQ4.out.1 HBz.out.1 (by simp), HBz.out.2.keep HQ4.out.1⟩
  have HBv : Hid (SwB s4 nv ⟨3, -2, 0, 0, false, false⟩ (.slice pvv 0 cvv) 0 0 ∧ sdR.At s4 (.slice pvv 0 cvv) []) := ⟨grown_keep HQ4.out.1 HBv.out.1 (by simp), HBv.out.2.keep HQ4.out.1⟩
  obtain ⟨x0, x1, x2, x3, x4, x5, x6, x7, x8⟩ := sw_box HBz.out.1
  obtain ⟨p9, c9, e9, -, hA9⟩ := HBz.out.2
  injection e9 with e1 e2 e3
  obtain ⟨gz, oz, e4, hR⟩ := hA9 (by decide)
  rw [e4] at e1
  obtain ⟨z0, z1, -⟩ := sd_cells (hR 0 ⟨1, 1, ryAq⟩ rfl)
  rw [Nat.zero_mul, Nat.add_zero] at z0 z1
  subst e1
  clear e2 e3 e4 hA9 hR
  go_wp2_with fail
  go_ret
  exact ⟨rfl, HQ4.out.2⟩
end Go.Proofs.YthfjgpjcepmnmaaGreat
