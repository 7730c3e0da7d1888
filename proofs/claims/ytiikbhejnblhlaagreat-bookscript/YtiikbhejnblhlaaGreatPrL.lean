/-
  The function that Cards of a book tells: what it hands over, one by one.
-/
import Derived.Test.YtiikbhejnblhlaaGreatPrK
namespace Go.Proofs.YtiikbhejnblhlaaGreat
open Go.RowKit Go.Shelf

attribute [local go_sem] Oper.semAt_some

/-- A card that is handed over: its parts in memory made since the loop began. -/
def Rdy (B : Nat) (es : List Ent) (pre : List Ent) (x : Ent) (W : World) : Prop := POwn W B x.v x.ps ∧ ∃ e, es[pre.length]? = some e ∧ x.h = e.h ∧ x.ps = e.ps
set_option maxRecDepth 100000 in
set_option maxHeartbeats 4000000 in
theorem seq_cards (n : Nat) (hn : 1 ≤ n) (x q : Nat) (v : Value) (es : List Ent) (w : World) (hx : w.cell? ⟨x, 0, none⟩ = some v) (hxq : ¬ x = q) (L : RL w v es) (hv : ∀ k, v.ownBlock = some k → ¬ k = q) (hG : Good (fun k => ¬ k = q) w es) (h64 : es.length ≤ 64) (h4 : ∀ e ∈ es, e.ps.length ≤ 4) :
    SeqTold Fence.wide n Tryz.prog 57 #[.pointer (some ⟨x, 0, none⟩)] (fun e : Ent => #[cv e.h e.v]) (Rdy w.heap.size es) (fun W W' => w.grownBy W (some q) → w.grownBy W' (some q)) (fun xs => xs.map hp = es.map hp) (fun _ => True) es.length w := fun l J Jx W hW hJ _ hY h0 => by
  have HW0 : Hid (w.grownBy W (some q)) := by
    have h9 := below_grown hW
    exact ⟨h9.os, h9.tape, h9.output, h9.size, fun k hk _ => h9.block k hk (by simp)⟩
  obtain ⟨va, vc, rfl⟩ := L.form
  have HC : Hid (∀ V, w.grownBy V (some q) → V.cell? ⟨x, 0, none⟩ = some (.slice va es.length vc)) := fun V g => g.cell hx (by simpa using hxq)
  have HL : Hid (RL w (.slice va es.length vc) es) := L
  have HV : Hid (∀ k, (Value.slice va es.length vc).ownBlock = some k → ¬ k = q) := hv
  have HG : Hid (Good (fun k => ¬ k = q) w es) := hG
  have H4 : Hid (∀ e ∈ es, e.ps.length ≤ 4) := h4
  have HJ : Hid (AbidesFrom W.heap.size J) := hJ
  have HY : Hid (∀ pre x V, J pre V → Rdy w.heap.size es pre x V → pre.length < es.length → YieldAt Fence.wide (n - 1) Tryz.prog l #[cv x.h x.v] V fun e V' => (e = .returned (.bool true) ∧ J (pre ++ [x]) V' ∧ (w.grownBy V (some q) → w.grownBy V' (some q))) ∨ (e = .returned (.bool false) ∧ Jx (pre ++ [x]) V')) := hY
  have hsm : Small es.length := by unfold Small; omega
  have hc := HC.out W HW0.out
  clear L hv hG h4 hJ hY hx hxq hW h64
  refine callsIn_of_wp Tryz.func57 rfl trivial ?_ rfl
  simp only [Tryz.ntmps57, List.size_toArray, List.length_cons, List.length_nil, Nat.reduceAdd, Nat.reduceSub, Array.replicate_succ, Array.replicate_zero, List.push_toArray, List.append_toArray, List.nil_append, List.cons_append]
  gi_wp2
  gi_loopw [4, 7] (fun _ s wr => ∃ (k : Nat) (pre : List Ent), k ≤ es.length ∧ s = .int .i64 (k : Int) ∧ pre.map hp = (es.take k).map hp ∧ J pre wr ∧ w.grownBy wr (some q)) (fun _ s _ => es.length - (intOf s).toNat)
  case atStart => exact ⟨0, [], Nat.zero_le _, rfl, rfl, h0, HW0.out⟩
  case round =>
    clear HW0 hc
    obtain ⟨k, pre, hk, rfl, hm, hj, hg⟩ := hrel
    obtain ⟨U, hU⟩ : ∃ U, U = wr := ⟨_, rfl⟩
    subst hU
    have HM : Hid (pre.map hp = (es.take k).map hp) := hm
    have HJ0 : Hid (J pre U) := hj
    have HG0 : Hid (w.grownBy U (some q)) := hg
    clear hm hj hg h0
    rcases (show k < es.length ∨ k = es.length from by omega) with hkl | hke
    · have k0 : (0 : Int) ≤ (k : Int) := by omega
      have k1 : (k : Int) < (es.length : Int) := by omega
      obtain ⟨e0, he0⟩ : ∃ e, es[k]? = some e := ⟨_, List.getElem?_eq_getElem hkl⟩
      obtain ⟨g1, c1, hv1, R1⟩ := HL.out.row (by omega)
      injection hv1 with hx1 _ hc1
      subst hx1
      subst hc1
      have C0 := (R1 k e0 he0).keepR HG0.out (by have h9 := HV.out g1 rfl; intro e; injection e with e; exact h9 e)
      have P0 := ((HG.out e0 (List.mem_of_getElem? he0)).keepR HG0.out (fun j hj e => by injection e with e; exact hj e)).1
      have hp4 := H4.out e0 (List.mem_of_getElem? he0)
      have HN : Hid (∀ u, (pre ++ [(⟨e0.h, u, e0.ps⟩ : Ent)]).map hp = (es.take (k + 1)).map hp) := fun u => hp_snoc HM.out he0 u
      have HPl : Hid (pre.length < es.length) := by
        have h9 := congrArg List.length HM.out
        simp only [List.length_map, List.length_take] at h9
        show pre.length < es.length
        omega
      have hpl : pre.length = k := by
        have h9 := congrArg List.length HM.out
        simp only [List.length_map, List.length_take] at h9
        omega
      have HE : Hid (es[pre.length]? = some e0) := by rw [hpl]; exact he0
      clear R1 he0 HM hpl
      obtain ⟨⟨m0, m1, m2, m3, m4, m5, m6, m7⟩, ev, eps⟩ := e0
      simp only at C0 P0 hp4 HN HE
      obtain ⟨xa, ya, rfl⟩ := P0.form
      obtain ⟨X1, hX1⟩ : ∃ X1, X1 = U.alloc (.cells (ccs ⟨m0, m1, m2, m3, m4, m5, m6, m7⟩ (.slice xa eps.length ya)) 36) := ⟨_, rfl⟩
      have GX : U.grownBy X1 none := by rw [hX1]; exact World.grownBy_alloc _ _ none
      have HGX : Hid (U.grownBy X1 none) := GX
      have KX : CAt X1 U.heap.size ⟨m0, m1, m2, m3, m4, m5, m6, m7⟩ (.slice xa eps.length ya) := by rw [hX1]; exact alloc_at _ _ _
      have CP := ccopy_any ⟨m0, m1, m2, m3, m4, m5, m6, m7⟩ (.slice xa eps.length ya) eps X1 (P0.keep GX) (by omega)
      obtain ⟨z0, z1, z2, z3, z4, z5, z6, z7, z8⟩ := C0
      obtain ⟨d0, d1, d2, d3, d4, d5, d6, d7, d8⟩ := KX.cells
      simp only at z0 z1 z2 z3 z4 z5 z6 z7 z8 d0 d1 d2 d3 d4 d5 d6 d7 d8
      unfold ccs at hX1
      unfold cv at CP
      simp only at hX1 CP
      have HX1 : Hid (X1 = _) := hX1
      clear KX GX P0 hX1 hp4
      gi_wp2_with fail
      rw [← HX1.out]
      first | refine (callsIn_wide.2 CP).mono ?_ | (refine ⟨trivial, ?_⟩; refine (callsIn_wide.2 CP).mono ?_)
      rintro e X2 ⟨u, rfl, o2, g2⟩
      obtain ⟨xb, yb, rfl⟩ := o2.at.form
      have GU : U.grownBy X2 none := grown_trans HGX.out g2
      have GW : Hid (w.grownBy X2 (some q)) := HG0.out.trans (grown_own' GU (grown_refl _ _))
      have sU : w.heap.size ≤ X1.heap.size := Nat.le_trans HG0.out.size HGX.out.size
      have J2 : J pre X2 := HJ.out pre U X2 none HJ0.out GU (fun r e => by cases e)
      obtain ⟨fn, tmps, assign, body, hy, hR⟩ := HY.out pre ⟨⟨m0, m1, m2, m3, m4, m5, m6, m7⟩, .slice xb eps.length yb, eps⟩ X2 J2 ⟨o2.big sU, _, HE.out, rfl, rfl⟩ HPl.out
      unfold cv at hy
      simp only at hy
      clear CP HX1 o2 g2 GU J2 sU z0 z1 z2 z3 z4 z5 z6 z7 z8 d0 d1 d2 d3 d4 d5 d6 d7 d8
      gi_wp2
      refine hR.mono ?_
      rintro e X3 (⟨rfl, hJ3, hk3⟩ | ⟨rfl, hJx3⟩)
      · have HJ3 : Hid (J (pre ++ [⟨⟨m0, m1, m2, m3, m4, m5, m6, m7⟩, .slice xb eps.length yb, eps⟩]) X3) := hJ3
        have HG3 : Hid (w.grownBy X3 (some q)) := hk3 GW.out
        clear hJ3 hk3 hR hy
        gi_wp2
        go_roundw
        case rel => exact ⟨k + 1, _, hkl, by first | rfl | (rw [hsm.wrap hkl]; rfl), HN.out _, HJ3.out, HG3.out⟩
        case measure => first | exact meas_next hkl | (rw [hsm.wrap hkl]; exact meas_next hkl)
      · clear hR hy
        gi_wp2
        refine bodyPost_ret (results_none rfl _ _ _) rfl ?_
        exact ⟨⟨_, rfl⟩, .inr ⟨_, trivial, hJx3⟩⟩
    · have k1 : ¬ (k : Int) < (es.length : Int) := by omega
      have HF : Hid (pre.map hp = es.map hp) := by
        have h9 := HM.out
        rw [hke, List.take_of_length_le (Nat.le_refl _)] at h9
        exact h9
      clear hke HM
      gi_wp2
      go_end0
      exact ⟨⟨_, rfl⟩, .inl ⟨pre, HF.out, HJ0.out⟩⟩
end Go.Proofs.YtiikbhejnblhlaaGreat
