/-
  Swaps: swapsOf: the swaps of a thing's card.
  The document's layers: those that an effect is about, by rising stamps.
  The document's layers: what is refused of all; whether an effect may be.
  The document's layers: what a part that stands makes of features.
  The document's layers: an effect applied.
  The document's layers: About, Apply.
  The document's layers: same.
  The document's layers: which effect hangs on which.
  The document's layers: which effect stands ahead.
  The document's layers: may effects be listed?
  The document's layers: may effects be listed? (the walk)
  The document's layers: Depends.
  The document's layers: the effects of a layer.
-/
import Derived.Test.YthfjgpjcepmnmaaGreatS31
import Derived.Test.YthfjgpjcepmnmaaGreatS25
import Derived.Test.YthfjgpjcepmnmaaGreatS28
import Derived.Test.YthfjgpjcepmnmaaGreatS29
namespace Go.Proofs.YthfjgpjcepmnmaaGreat
open Go.RowKit

theorem plF_memS : ∀ (ps : List Pt) (i : Nat) (m x : Int), x ∈ plF ps i m → ∃ q : Nat, x = ((i + q : Nat) : Int) ∧ q < ps.length ∧ (ps.getD q Pt.none).wn = m
  | [], _, _, _, h => by cases h
  | p :: ps, i, m, x, h => by
    unfold plF at h
    have hrec := fun z => plF_memS ps (i + 1) m x z
    split at h
    · rename_i hw
      rcases List.mem_cons.1 h with h | h
      · exact ⟨0, by simpa using h, by simp, by simpa using hw⟩
      · obtain ⟨q, a, b, c⟩ := hrec h
        exact ⟨q + 1, by rw [a]; congr 1; omega, by simpa using b, by simpa using c⟩
    · obtain ⟨q, a, b, c⟩ := hrec h
      exact ⟨q + 1, by rw [a]; congr 1; omega, by simpa using b, by simpa using c⟩
theorem plF_few (ps : List Pt) (m : Int) (h : ps.length ≤ 4) : (plF ps 0 m).length ≤ 4 := Nat.le_trans (plF_len _ _ _) h
def mkS (nu : Int) (ps : List Pt) (i : Int) : Sd := ⟨nu, i, ps.getD i.toNat Pt.none⟩
def swU (nu : Int) (ps : List Pt) (k : Nat) : List Sd := ((plF ps 0 6).take k).map (mkS nu ps)
theorem swU_all (nu : Int) (ps : List Pt) : swU nu ps (plF ps 0 6).length = swRow nu ps := by unfold swU; rw [List.take_length]; rfl
theorem swU_next {nu : Int} {ps : List Pt} {k : Nat} {x : Int} (h : (plF ps 0 6)[k]? = some x) : swU nu ps (k + 1) = swU nu ps k ++ [mkS nu ps x] := by unfold swU; rw [List.take_add_one, h, List.map_append]; rfl
theorem swU_len {nu : Int} {ps : List Pt} {k : Nat} (h : k ≤ (plF ps 0 6).length) : (swU nu ps k).length = k := by unfold swU; rw [List.length_map, List.length_take]; omega
def SCard (w : World) (bv : Value) (n : Int) (cd : Int → Hd × List Pt) : Prop := ∀ X t, w.grownBy X none → 1 ≤ t.card → t.card ≤ n → Calls Tryz.prog 197 #[bv, thv t] X (CrPost (cd t.card).1 (cd t.card).2 0 X)
theorem SCard.keep {w w' : World} {bv : Value} {n : Int} {cd : Int → Hd × List Pt} (h : SCard w bv n cd) (g : w.grownBy w' none) : SCard w' bv n cd := fun X t q => h X t (grown_trans g q)
theorem sd_room {m k n : Nat} (h : m = k) (hk : k < n) (hn : n ≤ 4) : m + 1 ≤ maxLen ∧ (m + 1) * 56 ≤ 140737488355328 := ⟨by unfold maxLen; omega, by omega⟩
set_option maxRecDepth 100000 in
set_option maxHeartbeats 4000000 in
theorem sswapsOf_any (bv vt vf vl : Value) (n : Int) (cd : Int → Hd × List Pt) (ts : List Th) (j : Nat) (t : Th) (w : World) (A : thR.At w vt ts) (ht : ts[j]? = some t) (hl : ts.length ≤ 2048) (C : SCard w bv n cd) (h1 : 1 ≤ t.card) (h2 : t.card ≤ n) (h4 : (cd t.card).2.length ≤ 4) : Calls Tryz.prog 130 #[scnv bv vt vf vl, .int .i64 ((j : Int) + 1)] w fun e w' => ∃ v, e = .returned v ∧ DOwn w' w.heap.size v (swRow ((j : Int) + 1) (cd t.card).2) ∧ w.grownBy w' none := by
  obtain ⟨i0, hi, hz0, hz1, hz2⟩ := info_parts Tryz.linfoD
  obtain ⟨pt, ct, rfl⟩ := A.form
  have hjl : j < ts.length := (List.getElem?_eq_some_iff.1 ht).1
  obtain ⟨h, hh⟩ : ∃ h, h = (cd t.card).1 := ⟨_, rfl⟩
  obtain ⟨ps, hps⟩ : ∃ ps, ps = (cd t.card).2 := ⟨_, rfl⟩
  have hC : ∀ X, w.grownBy X none → Calls Tryz.prog 197 #[bv, thv t] X (CrPost h ps 0 X) := fun X q => by rw [hh, hps]; exact C X t q h1 h2
  rw [← hps] at h4 ⊢
  obtain ⟨V, hV⟩ : ∃ V, V = w.alloc (.cells #[bv, .slice pt ts.length ct, vf, vl] 136) := ⟨_, rfl⟩
  obtain ⟨X, hX⟩ : ∃ X, X = V.alloc (.cells #[.int .i64 t.card, .int .i64 t.owner, .int .u8 t.place, .int .i64 t.stamp, .int .i64 t.hurt, .int .i64 t.m0, .int .i64 t.m1, .int .i64 t.m2, .int .i64 t.m3, .int .i64 t.done, .bool t.fresh] 100) := ⟨_, rfl⟩
  have HV : Hid (ScnB X w.heap.size bv (.slice pt ts.length ct) vf vl ∧ w.grownBy X none ∧ ThB X V.heap.size t ∧ w.grownBy V none) := by
    have gr : w.grownBy V none := by rw [hV]; exact World.grownBy_alloc _ _ none
    have g2 : V.grownBy X none := by rw [hX]; exact World.grownBy_alloc _ _ none
    exact ⟨grown_keep g2 (by rw [hV]; exact alloc_at _ _ _) (by simp), grown_trans gr g2, by rw [hX]; exact alloc_at _ _ _, gr⟩
  have z1 : ((j : Int)) < (ts.length : Int) := Int.ofNat_lt.2 hjl
  have wz : wrap64 (j : Int) = (j : Int) := by unfold wrap64; omega
  have wz2 : IntKind.i64.wrap (j : Int) = (j : Int) := by rw [IntWalk.i64_in _ (by omega)]
  obtain ⟨gT, oT, cT, eT, -⟩ := th_there A hjl
  injection eT with eT eT2 eT3
  clear eT2 eT3
  subst eT
  obtain ⟨s0, s1, s2, s3, s4, s5, s6, s7, s8, s9, s10⟩ := th_cells (rec_thV (A.keep HV.out.2.2.2) ht)
  have CC := hC X HV.out.2.1
  have HCs : Hid (∀ Y, X.grownBy Y none → Calls Tryz.prog 198 #[bv, thv t, .int .u8 6] Y fun e w' => ∃ v, e = .returned (.tuple #[v, .int .i64 0]) ∧ OwT w' Y.heap.size v (plF ps 0 6) ∧ Y.grownBy w' none) := fun Y q => tparts_of bv t h ps 0 6 Y (fun q => absurd rfl q) h4 (fun Z qz => hC Z (grown_trans (grown_trans HV.out.2.1 q) qz))
  have H4 : Hid (ps.length ≤ 4) := h4
  have HS : Hid (ScnB V w.heap.size bv (.slice (some ⟨gT, oT, none⟩) ts.length ct) vf vl) := by rw [hV]; exact alloc_at _ _ _
  unfold CrPost cv thv at CC
  unfold scnv
  clear A ht hl C h1 h2 h4 hC hh hps hjl
  go_enter Tryz.func130, Tryz.ntmps130
  go_upto_region 1 with fail
  rw [← hV]
  clear hV
  obtain ⟨n0, hn0⟩ : ∃ n0, n0 = w.heap.size := ⟨_, rfl⟩
  rw [← hn0] at HV HS ⊢
  have Hn0 : Hid (n0 = w.heap.size) := hn0
  clear hn0
  obtain ⟨c0, c1, c2, c3⟩ := scn_box HS.out
  go_upto_region 2 with fail
  rw [← hX]
  obtain ⟨n1, hn1⟩ : ∃ n1, n1 = V.heap.size := ⟨_, rfl⟩
  rw [← hn1] at HV ⊢
  clear hX hn1 s0 s1 s2 s3 s4 s5 s6 s7 s8 s9 s10 c0 c1 c2 c3
  obtain ⟨c0, c1, c2, c3⟩ := scn_box HV.out.1
  obtain ⟨s0, s1, s2, s3, s4, s5, s6, s7, s8, s9, s10⟩ := th_box HV.out.2.2.1
  go_wp2_with fail
  refine CC.mono ?_
  rintro e2 w2 ⟨u, rfl, o2, g2⟩
  have HPs : Hid (PsAt w2 u ps) := o2.at
  obtain ⟨a2, k2, rfl⟩ := o2.at.form
  obtain ⟨Y, hY⟩ : ∃ Y, Y = w2.alloc (.cells (ccs h (.slice a2 ps.length k2)) 54) := ⟨_, rfl⟩
  have HY : Hid (Y.heap[w2.heap.size]? = some (.cells (ccs h (.slice a2 ps.length k2)) 54 (0, 0)) ∧ PsAt Y (.slice a2 ps.length k2) ps ∧ X.grownBy Y none) := by
    have gr : w2.grownBy Y none := by rw [hY]; exact World.grownBy_alloc _ _ none
    exact ⟨by rw [hY]; exact alloc_at _ _ _, HPs.out.keep gr, grown_trans g2 gr⟩
  unfold ccs at hY
  clear CC o2 g2 HPs
  go_upto_region 3 with fail
  rw [← hY]
  obtain ⟨n2, hn2⟩ : ∃ n2, n2 = w2.heap.size := ⟨_, rfl⟩
  rw [← hn2] at HY ⊢
  clear hY hn2
  have c0 := HY.out.2.2.cell c0 (by simp)
  have s0 := HY.out.2.2.cell s0 (by simp)
  have s1 := HY.out.2.2.cell s1 (by simp)
  have s2 := HY.out.2.2.cell s2 (by simp)
  have s3 := HY.out.2.2.cell s3 (by simp)
  have s4 := HY.out.2.2.cell s4 (by simp)
  have s5 := HY.out.2.2.cell s5 (by simp)
  have s6 := HY.out.2.2.cell s6 (by simp)
  have s7 := HY.out.2.2.cell s7 (by simp)
  have s8 := HY.out.2.2.cell s8 (by simp)
  have s9 := HY.out.2.2.cell s9 (by simp)
  have s10 := HY.out.2.2.cell s10 (by simp)
  have CP := HCs.out Y HY.out.2.2
  unfold thv at CP
  clear HCs
  go_wp2_with fail
  refine CP.mono ?_
  rintro e3 w3 ⟨v3, rfl, o3, g3⟩
  obtain ⟨P, hP⟩ : ∃ P, P = plF ps 0 6 := ⟨_, rfl⟩
  have HP : Hid (P = plF ps 0 6) := hP
  rw [← hP] at o3
  obtain ⟨p3, k3, rfl⟩ := o3.form
  have H3 : Hid (OwT w3 Y.heap.size (.slice p3 P.length k3) P ∧ PsAt w3 (.slice a2 ps.length k2) ps ∧ w3.heap[n2]? = some (.cells (ccs h (.slice a2 ps.length k2)) 54 (0, 0)) ∧ w.grownBy w3 none) := ⟨o3, HY.out.2.1.keep g3, grown_keep g3 HY.out.1 (by simp), grown_trans (grown_trans HV.out.2.1 HY.out.2.2) g3⟩
  clear CP o3 g3 hP HY HV c0 c1 c2 c3 s0 s1 s2 s3 s4 s5 s6 s7 s8 s9 s10
  obtain ⟨B, hB⟩ : ∃ B, B = w3.heap.size := ⟨_, rfl⟩
  have HB : Hid (B = w3.heap.size) := hB
  clear hB
  obtain ⟨M, hM⟩ : ∃ M, M = P.length := ⟨_, rfl⟩
  have HMl : Hid (M = P.length) := hM
  rw [← hM]
  clear hM
  go_wp2_with fail
  go_loopw [10, 35] (fun v i wr => ∃ (k : Nat) (p : Option Addr) (c : Nat), k ≤ M ∧ i = .int .i64 (k : Int) ∧ v = .slice p k c ∧ Hid (DOwn wr B (.slice p k c) (swU ((j : Int) + 1) ps k) ∧ w3.grownBy wr none)) (fun _ i _ => M - (intOf i).toNat)
  case atStart => exact ⟨0, none, 0, Nat.zero_le _, rfl, rfl, RecT.Own.nil _ _ _ _, grown_refl _ _⟩
  case round =>
    obtain ⟨k, p, c, hk', rfl, rfl, HK⟩ := hrel
    obtain ⟨U, hU⟩ : ∃ U, U = wr := ⟨_, rfl⟩
    subst hU
    by_cases hi2 : k < M
    · have i1 : (k : Int) < (M : Int) := Int.ofNat_lt.2 hi2
      have hk0 : k < P.length := by rw [← HMl.out]; exact hi2
      have hM4 : M ≤ 4 := by rw [HMl.out, HP.out]; exact plF_few ps 6 H4.out
      have hwk := wrap_next (k := k) (by omega)
      have HM : Hid (M - (intOf (.int .i64 ((k : Int) + 1))).toNat < M - (intOf (.int .i64 (k : Int))).toNat) := meas_k hi2
      obtain ⟨x, hx⟩ : ∃ x, P[k]? = some x := ⟨_, List.getElem?_eq_getElem hk0⟩
      obtain ⟨q, e1, hq, -⟩ := plF_memS ps 0 6 x (by rw [← HP.out]; exact List.mem_of_getElem? hx)
      rw [Nat.zero_add] at e1
      subst e1
      obtain ⟨gP, cP, eP, _, _, _, _, hcP⟩ := own_cell H3.out.1 (by omega)
      injection eP with eP eP2 eP3
      clear eP2 eP3
      subst eP
      have y0 : U.cell? ⟨gP, k, none⟩ = some (.int .i64 (q : Int)) := HK.out.2.cell ((hcP k (by omega)).1.trans (by rw [ints_at P k hk0]; rw [List.getElem?_eq_getElem hk0] at hx; injection hx with hx; rw [List.getD_eq_getElem?_getD, List.getElem?_eq_getElem hk0]; simp [hx])) (by simp)
      obtain ⟨pp, hpp⟩ : ∃ pp, ps[q]? = some pp := ⟨_, List.getElem?_eq_getElem hq⟩
      obtain ⟨gQ, oQ, cQ, eQ, RQ⟩ := H3.out.2.1.part (by omega)
      have eQ1 : a2 = some ⟨gQ, oQ, none⟩ := by injection eQ
      clear eQ
      subst eQ1
      obtain ⟨d0, d1, d2, d3, d4, d5, d6, d7⟩ := (RQ q pp hpp).keep HK.out.2
      have q8 := HK.out.2.cell (block_cell H3.out.2.2.1 8) (by simp)
      simp only [ccs] at q8
      have q1 : (q : Int) < (ps.length : Int) := Int.ofNat_lt.2 hq
      have q0 : (0 : Int) ≤ (q : Int) := by omega
      have HN : Hid (swU ((j : Int) + 1) ps (k + 1) = swU ((j : Int) + 1) ps k ++ [⟨(j : Int) + 1, (q : Int), pp⟩]) := by
        show _ = _
        rw [swU_next (by rw [← HP.out]; exact hx)]
        unfold mkS
        rw [Int.toNat_natCast, List.getD_eq_getElem?_getD, hpp]
        rfl
      obtain ⟨e, he⟩ : ∃ e : Sd, e = ⟨(j : Int) + 1, (q : Int), pp⟩ := ⟨_, rfl⟩
      have HO : Hid (U.ownsRow B 40 10 (.slice p k c) k (sdR.cs (swU ((j : Int) + 1) ps k))) := by
        have := HK.out.1
        unfold DOwn RecT.Own at this
        rw [swU_len (by rw [← HP.out]; omega)] at this
        exact this
      have HLn : Hid (k + 1 ≤ maxLen ∧ (k + 1) * 56 ≤ 140737488355328 ∧ B ≤ (U.alloc (.cells (sdc e).toArray 40)).heap.size) := by
        have := sd_room rfl hi2 hM4
        exact ⟨this.1, this.2, by rw [HB.out]; exact (grown_push HK.out.2 _).size⟩
      have HSr : Hid (Src (U.alloc (.cells (sdc e).toArray 40)) (.slice (some ⟨U.heap.size, 0, none⟩) 1 1) 1 10 (sdc e)) := sd_src U e
      have HKk : Hid (k + 1 ≤ M ∧ (swU ((j : Int) + 1) ps k).length = k ∧ w3.grownBy U none) := ⟨hi2, swU_len (by rw [← HP.out]; omega), HK.out.2⟩
      rw [← he] at HN
      subst he
      clear hk' hi2 hk0 hM4 hx hq hcP hpp RQ HK
      unfold sdc at HLn HSr
      go_upto_region 9 with (at_builtin; refine lwpl_app (by rfl) (.tmp 39) (.tmp 48) 27 rfl B 40 i0 _ 10 56 Tryz.underlying27 hi hz0 hz1 hz2 rfl (by decide) _ k (sdR.cs (swU ((j : Int) + 1) ps k)) rfl (World.ownsRow.alloc HO.out _) _ 1 (sdc ⟨(j : Int) + 1, (q : Int), pp⟩) rfl HSr.out (sdc_ones _) HLn.out.1 HLn.out.2.1 HLn.out.2.2 ?_; intro v9 w9 o9 g9 _; obtain ⟨pv, kv, rfl, -⟩ := own_slice o9; have HO9 : Hid _ := o9; have HG9 : Hid _ := g9; clear o9 g9)
      have HZ : Hid (DOwn w9 B (.slice pv (k + 1) kv) (swU ((j : Int) + 1) ps (k + 1)) ∧ w3.grownBy w9 none) := by
        refine ⟨?_, grown_own (grown_trans HKk.out.2.2 (World.grownBy_alloc U _ none)) HG9.out (fun y e => by rw [← HB.out]; exact (World.ownsRow.lt HO.out y e).1)⟩
        rw [HN.out]
        exact RecT.more HO9.out HKk.out.2.1.symm
      clear HO9 HG9 HO HSr HLn HN
      go_wp2_with fail
      go_roundw
      case rel => exact ⟨k + 1, pv, kv, HKk.out.1, by first | rfl | (rw [hwk]; rfl) | go_num, rfl, HZ.out⟩
      case measure => first | exact HM.out | (rw [hwk]; exact HM.out)
    · obtain rfl : k = M := Nat.le_antisymm hk' (Nat.le_of_not_lt hi2)
      have i1 : ¬ (k : Int) < (k : Int) := Int.lt_irrefl _
      have HF : Hid (DOwn U w.heap.size (.slice p k c) (swRow ((j : Int) + 1) ps) ∧ w.grownBy U none) := by
        have := HK.out.1
        rw [show swU ((j : Int) + 1) ps k = swRow ((j : Int) + 1) ps from by rw [HMl.out, HP.out]; exact swU_all _ _] at this
        exact ⟨own_big this (by rw [HB.out]; exact H3.out.2.2.2.size), grown_trans H3.out.2.2.2 HK.out.2⟩
      clear hk' hi2 HK
      go_wp2_with fail
      go_ret
      exact ⟨_, rfl, HF.out⟩
end Go.Proofs.YthfjgpjcepmnmaaGreat
namespace Go.Proofs.YthfjgpjcepmnmaaGreat
open Go.RowKit Go.Shelf

end Go.Proofs.YthfjgpjcepmnmaaGreat
namespace Go.Proofs.YthfjgpjcepmnmaaGreat
open Go.RowKit Go.Shelf

end Go.Proofs.YthfjgpjcepmnmaaGreat
namespace Go.Proofs.YthfjgpjcepmnmaaGreat
open Go.RowKit

end Go.Proofs.YthfjgpjcepmnmaaGreat
namespace Go.Proofs.YthfjgpjcepmnmaaGreat
open Go.RowKit Go.Shelf

end Go.Proofs.YthfjgpjcepmnmaaGreat
namespace Go.Proofs.YthfjgpjcepmnmaaGreat
open Go.RowKit Go.Shelf

end Go.Proofs.YthfjgpjcepmnmaaGreat
namespace Go.Proofs.YthfjgpjcepmnmaaGreat
open Go.RowKit Go.Shelf

end Go.Proofs.YthfjgpjcepmnmaaGreat
namespace Go.Proofs.YthfjgpjcepmnmaaGreat
open Go.RowKit Go.Shelf

end Go.Proofs.YthfjgpjcepmnmaaGreat
namespace Go.Proofs.YthfjgpjcepmnmaaGreat
open Go.RowKit Go.Shelf

end Go.Proofs.YthfjgpjcepmnmaaGreat
namespace Go.Proofs.YthfjgpjcepmnmaaGreat
open Go.RowKit Go.Shelf

theorem Tab.ps4 {n : Int} {cd : Int → Hd × List Pt} {ts : List Th} {fs : List Fe} {R : List Rw} (h : Tab n cd ts fs R) (hc : ∀ c, (cd c).2.length ≤ 4) (i : Nat) : (R.getD i Rw.none).ps.length ≤ 4 := by
  by_cases hi : i < R.length
  · rw [getD_in hi]
    obtain ⟨j, t, f, _, _, c⟩ := tbl_of _ _ _ (h.perm.mem_iff.1 (List.getElem_mem hi))
    rw [c]
    exact hc _
  · rw [List.getD_eq_getElem?_getD, List.getElem?_eq_none (by omega)]
    exact Nat.zero_le _
theorem rec_sdV {w : World} {g off n c : Nat} {X : List Sd} (h : sdR.At w (.slice (some ⟨g, off, none⟩) n c) X) {i : Nat} {x : Sd} (hx : X[i]? = some x) : w.rangeAt g (off + i * 10) (sdc x) := by
  obtain ⟨hi, e⟩ := List.getElem?_eq_some_iff.1 hx
  obtain ⟨g', off', cap, e1, r⟩ := sd_there h hi
  injection e1 with e1 _ _
  injection e1 with e1
  injection e1 with ea eb
  rw [ea, eb, ← e]
  exact r
end Go.Proofs.YthfjgpjcepmnmaaGreat
namespace Go.Proofs.YthfjgpjcepmnmaaGreat
open Go.RowKit Go.Shelf

end Go.Proofs.YthfjgpjcepmnmaaGreat
namespace Go.Proofs.YthfjgpjcepmnmaaGreat
open Go.RowKit Go.Shelf

end Go.Proofs.YthfjgpjcepmnmaaGreat
namespace Go.Proofs.YthfjgpjcepmnmaaGreat
open Go.RowKit Go.Shelf

theorem rwp_app {P : Program} {w : World} {o : Oper} {a : Act} {K : Act → World → Prop} {Q : Exit → Act → World → Prop} (s x : Operand) (t : TypeId)
    (ho : o.op = .call { callee := .builtin .append, args := #[s, x], argTypes := #[t, t] })
    (base : Nat) (e : TypeId) (i : TypeInfo) (z : Value) (size bytes : Nat) (ht : P.underlying t = some (.slice e)) (hi : P.info? e = some i) (hz : i.zero = some z)
    (hsize : i.size = size) (hby : i.bytes = bytes) (hzs : z.cells.size = size) (hsz : 0 < size)
    (v : Value) (n : Nat) (xs : List Value) (hs : a.eval s = v) (hown : w.ownsRow base e size v n xs)
    (vx : Value) (m : Nat) (ys : List Value) (hx : a.eval x = vx) (hsrc : Src w vx m size ys) (h1 : ∀ u ∈ ys, u.oneCell' = true)
    (h63 : n + m ≤ maxLen) (hbytes : (n + m) * bytes ≤ 140737488355328) (hbase : base ≤ w.heap.size)
    (h : ∀ v' w', w'.ownsRow base e size v' (n + m) (xs ++ ys) → w.grownBy w' v.ownBlock → (v'.ownBlock = v.ownBlock ∨ v'.ownBlock = some w.heap.size) → K (a.put o.dst v') w') : Oper.wp P o a w K Q := by
  obtain ⟨p, c, e1, hl, hc⟩ := hsrc
  subst e1
  by_cases h0 : m = 0
  · subst h0
    have hy : ys = [] := List.length_eq_zero_iff.1 (by omega)
    subst hy
    cases p with
    | none =>
      have hx2 : a.eval x = .slice none 0 c := hx
      have hrun : (Builtin.append_ #[t, t] o.type #[v, .slice none 0 c]).run P w = .ok v w := run_append_owned_none (P := P) (w := w) base t o.type e i size ht hi v n xs hown
      unfold Oper.wp
      simp [execOp, ho, resolve, invoke, builtin, hs, hx2, hrun, Result.andThen]
      exact h v w (by rw [List.append_nil]; exact hown) (grown_refl _ _) (Or.inl rfl)
    | some ad =>
      exact lwp_append_at s x t ho base e i z size bytes ht hi hz hsize hby hzs hsz v n xs hs hown ad 0 c [] hx (by simp) (fun j u hu => by simp at hu) h1 h63 hbytes hbase h
  · obtain ⟨ad, e2, hcell⟩ := hc (by omega)
    subst e2
    exact lwp_append_at s x t ho base e i z size bytes ht hi hz hsize hby hzs hsz v n xs hs hown ad m c ys hx hl hcell h1 h63 hbytes hbase h
end Go.Proofs.YthfjgpjcepmnmaaGreat
