/-
  The program's Cards of a book: a list of its own; the function over which one ranges.
  The function that Cards of a book tells: what it hands over, one by one.
  Tokens.
-/
import Derived.Test.YtknlcjhcamhfmaaGreatDoorJ46
import Derived.Test.YtknlcjhcamhfmaaGreatDoorJ30
import Derived.Maps.AppendAt
import Derived.Lib.BufferMore
namespace Go.Proofs.YtknlcjhcamhfmaaGreatDoor
open Go.RowKit Go.Shelf

attribute [local go_sem] Oper.semAt_some

theorem ecells_ones {ok : Nat → Prop} {w : World} : ∀ {es : List Ent}, Good ok w es → ∀ u ∈ ecells es, u.oneCell' = true
  | [], _, u, hu => by simp [ecells] at hu
  | e :: r, h, u, hu => by
    simp only [ecells, List.mem_append] at hu
    rcases hu with hu | hu
    · obtain ⟨x, y, hf⟩ := (h e (by simp)).1.form
      rw [hf] at hu
      exact cvs_one _ _ _ _ u hu
    · exact ecells_ones (es := r) (fun e' he' => h e' (by simp [he'])) u hu
theorem row_cells {w : World} {b : Nat} {es : List Ent} (h : EsAt w b 0 es) : ∀ (j : Nat) u, (ecells es)[j]? = some u → w.cell? (Addr.add ⟨b, 0, none⟩ j) = some u := fun j u hu => by
  have hj : j < es.length * 9 := by have := (List.getElem?_eq_some_iff.1 hu).1; rw [ecells_len] at this; exact this
  obtain ⟨e, he⟩ : ∃ e, es[j / 9]? = some e := ⟨_, List.getElem?_eq_getElem (by omega)⟩
  have hr := h _ e he
  have hk : j % 9 < 9 := Nat.mod_lt _ (by decide)
  have hu' : (cvs e.h e.v)[j % 9]? = some u := by
    rw [← ecells_at es (j / 9) e he (j % 9) hk, show j / 9 * 9 + j % 9 = j by omega]
    exact hu
  rw [add_plain, show 0 + j = 0 + j / 9 * 9 + j % 9 by omega]
  obtain ⟨c0, c1, c2, c3, c4, c5, c6, c7, c8⟩ := hr
  rcases (show j % 9 = 0 ∨ j % 9 = 1 ∨ j % 9 = 2 ∨ j % 9 = 3 ∨ j % 9 = 4 ∨ j % 9 = 5 ∨ j % 9 = 6 ∨ j % 9 = 7 ∨ j % 9 = 8 by omega) with e' | e' | e' | e' | e' | e' | e' | e' | e' <;> rw [e'] at hu' ⊢ <;> simp only [cvs, List.getElem?_cons_zero, List.getElem?_cons_succ, Option.some.injEq] at hu' <;> subst hu' <;> assumption
theorem eown_keep {w w' : World} {base : Nat} {v : Value} {es : List Ent} (h : EOwn w base v es) (g : w.grownBy w' none) : EOwn w' base v es := World.ownsRow.kept h g (match hb : v.ownBlock with
  | none => Or.inl rfl
  | some k => Or.inr (by simp))
set_option maxRecDepth 100000 in
theorem cloneC_any (ok : Nat → Prop) (b c : Nat) (es : List Ent) (w : World) (R : EsAt w b 0 es) (hG : Good ok w es) (h64 : es.length ≤ 64) : Calls Tryz.prog 105 #[.slice (some ⟨b, 0, none⟩) es.length c] w fun e w' => ∃ v, e = .returned v ∧ EOwn w' w.heap.size v es ∧ w.grownBy w' none := by
  obtain ⟨i0, hi, hz0, hz1, hz2⟩ := info_parts Tryz.info56
  have hn : ∀ w, (binOp .eql 89 (.slice (some ⟨b, 0, none⟩) es.length c) (.slice none 0 0)).run Tryz.prog w = .ok (.bool false) w := fun w => by
    rw [Go.Lib.run_eql_slice_some_nil w _ _ _ Tryz.underlying89]
  have H1 : Hid (∀ u ∈ ecells es, u.oneCell' = true) := ecells_ones hG
  obtain ⟨W1, hW1⟩ : ∃ W1, W1 = w.alloc (.cells #[] 56) := ⟨_, rfl⟩
  have G1 : w.grownBy W1 none := by rw [hW1]; exact World.grownBy_alloc _ _ none
  have HG1 : Hid (w.grownBy W1 none) := G1
  have HR : Hid (∀ (j : Nat) u, (ecells es)[j]? = some u → W1.cell? (Addr.add ⟨b, 0, none⟩ j) = some u) := row_cells (R.keep G1)
  have HO : Hid (W1.ownsRow w.heap.size 56 9 (.slice (some ⟨w.heap.size, 0, none⟩) 0 0) 0 []) := ⟨rfl, Or.inr ⟨w.heap.size, 0, #[], rfl, Nat.le_refl _, by rw [hW1]; exact alloc_at _ _ _, Nat.le_refl _, Nat.zero_le _, rfl, rfl⟩⟩
  have HL : Hid ((ecells es).length = es.length * 9) := ecells_len es
  have hm : 0 + es.length ≤ maxLen := by unfold maxLen; omega
  have hm2 : (0 + es.length) * 80 ≤ 140737488355328 := by omega
  have HW1 : Hid (W1 = _) := hW1
  clear R hG G1 hW1 h64
  go_enter Tryz.func105, Tryz.ntmps105
  go_upto_region 3 with fail
  go_wp2_with (at_builtin; rw [← HW1.out]; refine wpList_append_own _ rfl (.tmp 5) (.tmp 6) 89 rfl w.heap.size 56 i0 _ 9 80 Tryz.underlying89 hi hz0 hz1 hz2 rfl (by decide) (.slice (some ⟨w.heap.size, 0, none⟩) 0 0) 0 [] rfl HO.out ⟨b, 0, none⟩ es.length c (ecells es) rfl HL.out HR.out H1.out hm hm2 HG1.out.size ?_; intro v' w7 hown hgrow hnil)
  have F1 : EOwn w7 w.heap.size v' es := by have h := hown; rw [List.nil_append, Nat.zero_add] at h; exact h
  have F2 : w.grownBy w7 none := grown_own HG1.out hgrow (fun x e => by cases e; exact Nat.le_refl _)
  obtain ⟨p, q, rfl⟩ := F1.rl.form
  clear hown hgrow hnil
  go_wp2
  go_ret
  exact ⟨_, rfl, F1, F2⟩
set_option maxRecDepth 100000 in
theorem cards_yes (ok : Nat → Prop) (b : Nat) (es : List Ent) (p : Pl) (w : World) (B : Book ok w b es p) : Calls Tryz.prog 43 #[.pointer (some ⟨b, 0, none⟩)] w fun e w' => ∃ x v, e = .returned (.func (.func 106) #[] #[.pointer (some ⟨x, 0, none⟩)]) ∧ w'.heap[x]? = some (.cells #[v] 89 (0, 0)) ∧ EOwn w' w.heap.size v es ∧ w.heap.size ≤ x ∧ w.grownBy w' none := by
  have hmf : ∀ fn bound caps ww, (Instr.makeFunc fn bound caps).run Tryz.prog ww = .ok (.func fn bound caps) ww := fun _ _ _ _ => rfl
  have C1 := list_yes b es.length B.lies.len p w B.lies.flags
  have C2 := fun W (g : w.grownBy W none) => cloneC_any ok b 64 es W (B.keep g).lies.row (B.keep g).good B.lies.len
  have HC2 : Hid (∀ W, w.grownBy W none → Calls Tryz.prog 105 #[.slice (some ⟨b, 0, none⟩) es.length 64] W fun e w' => ∃ v, e = .returned v ∧ EOwn w' W.heap.size v es ∧ W.grownBy w' none) := C2
  clear C2 B
  go_enter Tryz.func43, Tryz.ntmps43
  go_wp2_with fail
  refine C1.mono ?_
  rintro e w1 ⟨rfl, g1, s1⟩
  have HG1 : Hid (w.grownBy w1 none) := g1
  have HS1 : Hid (w1.heap.size = w.heap.size) := s1
  clear C1 g1 s1
  go_wp2_with fail
  refine (HC2.out w1 HG1.out).mono ?_
  rintro e w2 ⟨v, rfl, o2, g2⟩
  obtain ⟨xa, ya, rfl⟩ := o2.rl.form
  obtain ⟨W3, hW3⟩ : ∃ W3, W3 = w2.alloc (.cells #[.slice xa es.length ya] 89) := ⟨_, rfl⟩
  have FIN : Hid (∃ x v, (.returned (.func (.func 106) #[] #[.pointer (some ⟨w2.heap.size, 0, none⟩)]) : Ending) = .returned (.func (.func 106) #[] #[.pointer (some ⟨x, 0, none⟩)]) ∧ W3.heap[x]? = some (.cells #[v] 89 (0, 0)) ∧ EOwn W3 w.heap.size v es ∧ w.heap.size ≤ x ∧ w.grownBy W3 none) := by
    refine ⟨w2.heap.size, .slice xa es.length ya, rfl, by rw [hW3]; exact alloc_at _ _ _, ?_, Nat.le_trans (Nat.le_of_eq HS1.out.symm) g2.size, ?_⟩
    · rw [← HS1.out, hW3]; exact eown_keep o2 (World.grownBy_alloc _ _ none)
    · rw [hW3]; exact grown_push (grown_trans HG1.out g2) _
  have HW3 : Hid (W3 = _) := hW3
  clear o2 g2 hW3
  go_wp2
  rw [← HW3.out]
  go_ret
  exact FIN.out
end Go.Proofs.YtknlcjhcamhfmaaGreatDoor
namespace Go.Proofs.YtknlcjhcamhfmaaGreatDoor
open Go.RowKit Go.Shelf

attribute [local go_sem] Oper.semAt_some

/-- A card that is handed over: its parts in memory made since the loop began. -/
def Rdy (B : Nat) (es : List Ent) (pre : List Ent) (x : Ent) (W : World) : Prop := POwn W B x.v x.ps ∧ ∃ e, es[pre.length]? = some e ∧ x.h = e.h ∧ x.ps = e.ps
set_option maxRecDepth 100000 in
set_option maxHeartbeats 4000000 in
theorem seq_cards (n : Nat) (hn : 1 ≤ n) (x q : Nat) (v : Value) (es : List Ent) (w : World) (hx : w.cell? ⟨x, 0, none⟩ = some v) (hxq : ¬ x = q) (L : RL w v es) (hv : ∀ k, v.ownBlock = some k → ¬ k = q) (hG : Good (fun k => ¬ k = q) w es) (h64 : es.length ≤ 64) (h4 : ∀ e ∈ es, e.ps.length ≤ 4) :
    SeqTold Fence.wide n Tryz.prog 106 #[.pointer (some ⟨x, 0, none⟩)] (fun e : Ent => #[cv e.h e.v]) (Rdy w.heap.size es) (fun W W' => w.grownBy W (some q) → w.grownBy W' (some q)) (fun xs => xs.map hp = es.map hp) (fun _ => True) es.length w := fun l J Jx W hW hJ _ hY h0 => by
  have HW0 : Hid (w.grownBy W (some q)) := by
    have h9 := below_grown hW
    exact ⟨h9.os, h9.tape, h9.output, h9.size, fun k hk _ => h9.block k hk (by simp)⟩
  obtain ⟨va, vc, rfl⟩ := L.form
  have HC : Hid (∀ V, w.grownBy V (some q) → V.cell? ⟨x, 0, none⟩ = some (.slice va es.length vc)) := fun V g => g.cell hx (by simpa using hxq)
  have HL : Hid (RL w (.slice va es.length vc) es) := L
  have HV : Hid (∀ k, (Value.slice va es.length vc).ownBlock = some k → ¬ k = q) := hv
  have HG : Hid (Good (fun k => ¬ k = q) w es) := hG
  have H4 : Hid (∀ e ∈ es, e.ps.length ≤ 4) := h4
  have HJ : Hid (AbidesFrom W.heap.size J) := hJ
  have HY : Hid (∀ pre x V, J pre V → Rdy w.heap.size es pre x V → pre.length < es.length → YieldAt Fence.wide (n - 1) Tryz.prog l #[cv x.h x.v] V fun e V' => (e = .returned (.bool true) ∧ J (pre ++ [x]) V' ∧ (w.grownBy V (some q) → w.grownBy V' (some q))) ∨ (e = .returned (.bool false) ∧ Jx (pre ++ [x]) V')) := hY
  have hsm : Small es.length := by unfold Small; omega
  have hc := HC.out W HW0.out
  clear L hv hG h4 hJ hY hx hxq hW h64
  refine callsIn_of_wp Tryz.func106 rfl trivial ?_ rfl
  simp only [Tryz.ntmps106, List.size_toArray, List.length_cons, List.length_nil, Nat.reduceAdd, Nat.reduceSub, Array.replicate_succ, Array.replicate_zero, List.push_toArray, List.append_toArray, List.nil_append, List.cons_append]
  gi_wp2
  gi_loopw [4, 7] (fun _ s wr => ∃ (k : Nat) (pre : List Ent), k ≤ es.length ∧ s = .int .i64 (k : Int) ∧ pre.map hp = (es.take k).map hp ∧ J pre wr ∧ w.grownBy wr (some q)) (fun _ s _ => es.length - (intOf s).toNat)
  case atStart => exact ⟨0, [], Nat.zero_le _, rfl, rfl, h0, HW0.out⟩
  case round =>
    clear HW0 hc
    obtain ⟨k, pre, hk, rfl, hm, hj, hg⟩ := hrel
    obtain ⟨U, hU⟩ : ∃ U, U = wr := ⟨_, rfl⟩
    subst hU
    have HM : Hid (pre.map hp = (es.take k).map hp) := hm
    have HJ0 : Hid (J pre U) := hj
    have HG0 : Hid (w.grownBy U (some q)) := hg
    clear hm hj hg h0
    rcases (show k < es.length ∨ k = es.length from by omega) with hkl | hke
    · have k0 : (0 : Int) ≤ (k : Int) := by omega
      have k1 : (k : Int) < (es.length : Int) := by omega
      obtain ⟨e0, he0⟩ : ∃ e, es[k]? = some e := ⟨_, List.getElem?_eq_getElem hkl⟩
      obtain ⟨g1, c1, hv1, R1⟩ := HL.out.row (by omega)
      injection hv1 with hx1 _ hc1
      subst hx1
      subst hc1
      have C0 := (R1 k e0 he0).keepR HG0.out (by have h9 := HV.out g1 rfl; intro e; injection e with e; exact h9 e)
      have P0 := ((HG.out e0 (List.mem_of_getElem? he0)).keepR HG0.out (fun j hj e => by injection e with e; exact hj e)).1
      have hp4 := H4.out e0 (List.mem_of_getElem? he0)
      have HN : Hid (∀ u, (pre ++ [(⟨e0.h, u, e0.ps⟩ : Ent)]).map hp = (es.take (k + 1)).map hp) := fun u => hp_snoc HM.out he0 u
      have HPl : Hid (pre.length < es.length) := by
        have h9 := congrArg List.length HM.out
        simp only [List.length_map, List.length_take] at h9
        show pre.length < es.length
        omega
      have hpl : pre.length = k := by
        have h9 := congrArg List.length HM.out
        simp only [List.length_map, List.length_take] at h9
        omega
      have HE : Hid (es[pre.length]? = some e0) := by rw [hpl]; exact he0
      clear R1 he0 HM hpl
      obtain ⟨⟨m0, m1, m2, m3, m4, m5, m6, m7⟩, ev, eps⟩ := e0
      simp only at C0 P0 hp4 HN HE
      obtain ⟨xa, ya, rfl⟩ := P0.form
      obtain ⟨X1, hX1⟩ : ∃ X1, X1 = U.alloc (.cells (ccs ⟨m0, m1, m2, m3, m4, m5, m6, m7⟩ (.slice xa eps.length ya)) 56) := ⟨_, rfl⟩
      have GX : U.grownBy X1 none := by rw [hX1]; exact World.grownBy_alloc _ _ none
      have HGX : Hid (U.grownBy X1 none) := GX
      have KX : CAt X1 U.heap.size ⟨m0, m1, m2, m3, m4, m5, m6, m7⟩ (.slice xa eps.length ya) := by rw [hX1]; exact alloc_at _ _ _
      have CP := ccopy_any ⟨m0, m1, m2, m3, m4, m5, m6, m7⟩ (.slice xa eps.length ya) eps X1 (P0.keep GX) (by omega)
      obtain ⟨z0, z1, z2, z3, z4, z5, z6, z7, z8⟩ := C0
      obtain ⟨d0, d1, d2, d3, d4, d5, d6, d7, d8⟩ := KX.cells
      simp only at z0 z1 z2 z3 z4 z5 z6 z7 z8 d0 d1 d2 d3 d4 d5 d6 d7 d8
      unfold ccs at hX1
      unfold cv at CP
      simp only at hX1 CP
      have HX1 : Hid (X1 = _) := hX1
      clear KX GX P0 hX1 hp4
      gi_wp2_with fail
      rw [← HX1.out]
      first | refine (callsIn_wide.2 CP).mono ?_ | (refine ⟨trivial, ?_⟩; refine (callsIn_wide.2 CP).mono ?_)
      rintro e X2 ⟨u, rfl, o2, g2⟩
      obtain ⟨xb, yb, rfl⟩ := o2.at.form
      have GU : U.grownBy X2 none := grown_trans HGX.out g2
      have GW : Hid (w.grownBy X2 (some q)) := HG0.out.trans (grown_own' GU (grown_refl _ _))
      have sU : w.heap.size ≤ X1.heap.size := Nat.le_trans HG0.out.size HGX.out.size
      have J2 : J pre X2 := HJ.out pre U X2 none HJ0.out GU (fun r e => by cases e)
      obtain ⟨fn, tmps, assign, body, hy, hR⟩ := HY.out pre ⟨⟨m0, m1, m2, m3, m4, m5, m6, m7⟩, .slice xb eps.length yb, eps⟩ X2 J2 ⟨o2.big sU, _, HE.out, rfl, rfl⟩ HPl.out
      unfold cv at hy
      simp only at hy
      clear CP HX1 o2 g2 GU J2 sU z0 z1 z2 z3 z4 z5 z6 z7 z8 d0 d1 d2 d3 d4 d5 d6 d7 d8
      gi_wp2
      refine hR.mono ?_
      rintro e X3 (⟨rfl, hJ3, hk3⟩ | ⟨rfl, hJx3⟩)
      · have HJ3 : Hid (J (pre ++ [⟨⟨m0, m1, m2, m3, m4, m5, m6, m7⟩, .slice xb eps.length yb, eps⟩]) X3) := hJ3
        have HG3 : Hid (w.grownBy X3 (some q)) := hk3 GW.out
        clear hJ3 hk3 hR hy
        gi_wp2
        go_roundw
        case rel => exact ⟨k + 1, _, hkl, by first | rfl | (rw [hsm.wrap hkl]; rfl), HN.out _, HJ3.out, HG3.out⟩
        case measure => first | exact meas_next hkl | (rw [hsm.wrap hkl]; exact meas_next hkl)
      · clear hR hy
        gi_wp2
        refine bodyPost_ret (results_none rfl _ _ _) rfl ?_
        exact ⟨⟨_, rfl⟩, .inr ⟨_, trivial, hJx3⟩⟩
    · have k1 : ¬ (k : Int) < (es.length : Int) := by omega
      have HF : Hid (pre.map hp = es.map hp) := by
        have h9 := HM.out
        rw [hke, List.take_of_length_le (Nat.le_refl _)] at h9
        exact h9
      clear hke HM
      gi_wp2
      go_end0
      exact ⟨⟨_, rfl⟩, .inl ⟨pre, HF.out, HJ0.out⟩⟩
end Go.Proofs.YtknlcjhcamhfmaaGreatDoor
namespace Go.Proofs.YtknlcjhcamhfmaaGreatDoor
open Go.RowKit Go.Shelf

attribute [local go_sem] Oper.semAt_some

theorem grown_off {a x y : World} {r row : Option Nat} (h : a.grownBy x r) (k : x.grownBy y row) (hr : ∀ j, row = some j → a.heap.size ≤ j) : a.grownBy y r := by
  obtain ⟨h1, h2, h3, h4, h5⟩ := h
  obtain ⟨k1, k2, k3, k4, k5⟩ := k
  refine ⟨k1.trans h1, k2.trans h2, k3.trans h3, Nat.le_trans h4 k4, fun j hj hn => ?_⟩
  rw [k5 j (by omega) (fun e => by have := hr j e.symm; omega)]
  exact h5 j hj hn
theorem fnilC (x : Nat) (w : World) : Sem.run Tryz.prog (binOp BinOp.eql 91 (Value.func (Fn.func 106) #[] #[.pointer (some ⟨x, 0, none⟩)]) Value.nilFunc) w = .ok (.bool false) w := by kernel_rfl
theorem Tryz.info9t : (Tryz.prog.info? 9).map (fun i => (i.zero, i.size, i.bytes)) = some (some (.string ⟨#[]⟩), 1, 16) := by kernel_rfl
/-- The names of the tokens among some cards. -/
def tkN (l : List Ent) : List ByteArray := (l.filter fun e => e.h.tk).map fun e => e.h.nm
theorem tkN_snoc (l : List Ent) (e : Ent) : tkN (l ++ [e]) = if e.h.tk = true then tkN l ++ [e.h.nm] else tkN l := by
  unfold tkN
  rw [List.filter_append, List.map_append]
  cases h : e.h.tk <;> simp [h]
theorem tkN_hp : ∀ {a b : List Ent}, a.map hp = b.map hp → tkN a = tkN b
  | [], [], _ => rfl
  | [], _ :: _, h => by simp at h
  | _ :: _, [], h => by simp at h
  | x :: r, y :: t, h => by
    rw [List.map_cons, List.map_cons] at h
    injection h with h1 h2
    have h3 : x.h = y.h := congrArg Prod.fst h1
    have h4 := tkN_hp h2
    unfold tkN at h4 ⊢
    simp only [List.filter_cons, h3]
    split
    · rw [List.map_cons, List.map_cons, h4, h3]
    · exact h4
theorem tkN_len (l : List Ent) : (tkN l).length ≤ l.length := by
  unfold tkN
  rw [List.length_map]
  exact List.length_filter_le _ _
def tokens : List ByteArray := [⟨#[119, 105, 115, 112]⟩, ⟨#[112, 101, 98, 98, 108, 101]⟩, ⟨#[101, 109, 98, 101, 114]⟩, ⟨#[100, 114, 111, 112]⟩, ⟨#[115, 104, 97, 100, 101]⟩, ⟨#[99, 111, 105, 110]⟩]
set_option maxRecDepth 100000 in
theorem tkN_all : tkN rowAll = tokens := by decide +kernel
theorem boxed_app {W w1 : World} {n₀ B : Nat} {t e : TypeId} {size : Nat} {v v' : Value} {k m : Nat} {xs ys : List Value} {tmp : Obj} (hv : Boxed W B t v) (hte : t ≠ e) (hrow : W.ownsRow n₀ e size v k xs) (hown' : w1.ownsRow n₀ e size v' m ys) (hgrow : (W.alloc tmp).grownBy w1 v.ownBlock) : Boxed w1 B t v ∧ Boxed (w1.setCell ⟨B, 0, none⟩ v') B t v' ∧ (w1.setCell ⟨B, 0, none⟩ v').ownsRow n₀ e size v' m ys ∧ KeepsOthers W (w1.setCell ⟨B, 0, none⟩ v') := by
  have hv1 : Boxed w1 B t v := (hv.alloc tmp).kept hgrow (hv.not_row hte hrow)
  refine ⟨hv1, hv1.set v', hown'.kept (grownBy_setCell' w1 B v') (.inr (hv1.not_row hte hown').symm), ?_⟩
  refine ((KeepsOthers.alloc W tmp).trans (KeepsOthers.of_grownBy hgrow fun j o ej hj => ?_)).trans (KeepsOthers.setCell _ _ _)
  rcases (hrow.alloc tmp).2 with ⟨rfl, _⟩ | ⟨g, cap, cur, rfl, _, hgb, _⟩
  · simp [Value.ownBlock] at ej
  · obtain rfl : g = j := by simpa [Value.ownBlock] using ej
    rw [hgb] at hj; cases hj; rfl
theorem row_base {W : World} {n m : Nat} {e : TypeId} {size : Nat} {v : Value} {k : Nat} {xs : List Value} (h : W.ownsRow n e size v k xs) (hb : m ≤ n) : W.ownsRow m e size v k xs := by
  obtain ⟨h1, h2⟩ := h
  refine ⟨h1, h2.imp id ?_⟩
  rintro ⟨g, cap, cur, h3, h4, h5⟩
  exact ⟨g, cap, cur, h3, Nat.le_trans hb h4, h5⟩
theorem row_low {W : World} {n₀ : Nat} {e : TypeId} {size : Nat} {v : Value} {k : Nat} {xs : List Value} (h : W.ownsRow n₀ e size v k xs) : ∀ j, v.ownBlock = some j → n₀ ≤ j := fun j hj => (World.ownsRow.lt h j hj).1
/-- What holds in the rounds of Tokens. -/
def TkI (w W3 : World) (pre : List Ent) (W : World) : Prop := W3.grownBy W (some w.heap.size) ∧ ∃ v, Boxed W w.heap.size 33 v ∧ W.ownsRow W3.heap.size 9 1 v (tkN pre).length ((tkN pre).map Value.string)
theorem TkI.own (w W3 : World) : OwnFrom W3.heap.size (TkI w W3) := fun s X Y row hs hg hr => by
  obtain ⟨h1, v, h2, h3⟩ := hs
  have hne : ∀ k cs t, X.heap[k]? = some (.cells cs t (0, 0)) → some k ≠ row := fun k cs t hk e => by
    obtain ⟨_, o, ho, hc⟩ := hr k e.symm
    rw [hk] at ho
    injection ho with ho
    subst ho
    cases hc
  refine ⟨grown_off h1 hg (fun j e => (hr j e).1), v, h2.kept hg (hne _ _ _ h2), World.ownsRow.kept h3 hg ?_⟩
  rcases h3.2 with ⟨e, _⟩ | ⟨g, cap, cur, e, _, hh, _⟩
  · rw [e]; exact Or.inl rfl
  · rw [e]; exact Or.inr (hne _ _ _ hh)
set_option maxRecDepth 100000 in
set_option maxHeartbeats 8000000 in
theorem tokens_any (w : World) (N : NamesAt w) : Calls Tryz.prog 14 #[] w fun e w' => ∃ v, e = .returned v ∧ w'.ownsRow w.heap.size 9 1 v 6 (tokens.map Value.string) ∧ w.grownBy w' none := by
  obtain ⟨i0, hi, hz0, hz1, hz2⟩ := info_parts Tryz.info9t
  have HN : Hid (NamesAt w) := N
  obtain ⟨W1, hW1⟩ : ∃ W1, W1 = w.alloc (.cells #[.slice none 0 0] 33) := ⟨_, rfl⟩
  have HG1 : Hid (w.grownBy W1 none) := by show w.grownBy W1 none; rw [hW1]; exact World.grownBy_alloc _ _ none
  have HQ1 : Hid (Boxed W1 w.heap.size 33 (.slice none 0 0)) := by show Boxed W1 _ _ _; rw [hW1]; exact Boxed.new _ _ _
  have HW1 : Hid (W1 = w.alloc (.cells #[.slice none 0 0] 33)) := hW1
  clear N hW1
  refine (callsIn_wide (n := 5)).1 ?_
  refine callsIn_of_wp_marks Tryz.func14 rfl trivial ?_ rfl
  simp only [Tryz.ntmps14, List.size_toArray, List.length_nil, Nat.reduceAdd, Nat.reduceSub, Array.replicate_succ, Array.replicate_zero, List.push_toArray, List.append_toArray, List.nil_append, List.cons_append]
  gi_wp2_with fail
  rw [← HW1.out]
  clear HW1
  refine ⟨trivial, ?_⟩
  refine (callsIn_wide.2 (book_any W1 (HN.out.keep HG1.out))).mono ?_
  rintro e W2 ⟨b, es, rfl, F2, l2, g2⟩
  have HF2 : Hid (FB W2 b es) := F2
  have HG2 : Hid (w.grownBy W2 none) := grown_trans HG1.out g2
  have HQ2 : Hid (Boxed W2 w.heap.size 33 (.slice none 0 0)) := HQ1.out.kept g2 (by simp)
  have Hl2 : Hid (W1.heap.size ≤ b) := l2
  clear F2 l2 g2
  gi_wp2_with fail
  refine ⟨trivial, ?_⟩
  refine (callsIn_wide.2 (cards_yes (fun k => b < k) b es pShut W2 HF2.out.book)).mono ?_
  rintro e W3 ⟨x, vv, rfl, B3, O3, hx3, g3⟩
  have HG3 : Hid (w.grownBy W3 none) := grown_trans HG2.out g3
  have HQ3 : Hid (Boxed W3 w.heap.size 33 (.slice none 0 0)) := HQ2.out.kept g3 (by simp)
  have hQb : w.heap.size < b := by have h9 := block_lt HQ1.out; have h8 := Hl2.out; omega
  have hQW : w.heap.size < W2.heap.size := block_lt HQ2.out
  have SEQ := seq_cards 4 (by decide) x w.heap.size vv es W3 (block_cell B3 0) (by omega) O3.rl (fun k hk => by have h9 := (World.ownsRow.lt O3 k hk).1; omega) (fun e he => ((HF2.out.keep g3).book.good e he).mono fun k hk => by omega) HF2.out.book.lies.len HF2.out.book.parts
  have HSEQ : Hid (SeqTold Fence.wide 4 Tryz.prog 106 #[.pointer (some ⟨x, 0, none⟩)] (fun e : Ent => #[cv e.h e.v]) (Rdy W3.heap.size es) (fun W W' => W3.grownBy W (some w.heap.size) → W3.grownBy W' (some w.heap.size)) (fun xs => xs.map hp = es.map hp) (fun _ => True) es.length W3) := SEQ
  have hfn := fnilC x
  have HQl : Hid (w.heap.size < W3.heap.size) := block_lt HQ3.out
  clear SEQ B3 O3 hx3 g3 HG1 HQ1 HQ2 hQb hQW Hl2
  gi_wp2_with fail
  clear hfn
  have H64 : Hid (es.length ≤ 64) := HF2.out.book.lies.len
  refine wpIn_range_told (Rd := Rdy W3.heap.size es) rfl (by omega) (gf := 106) (lb := #[.pointer (some ⟨x, 0, none⟩)]) rfl trivial (enters_of Tryz.func106 (by kernel_rfl) rfl) HSEQ.out (fun h k g => k (h g)) (fun W l o hl hlt g => grown_off g (grownBy_putObj' W l o) (fun j e => by cases e; exact hl)) (Below.refl _ _) (fun _ => rfl)
    (TkI w W3) (fun _ _ => False) (TkI.own w W3) (fun s X Y row hs hg hr => hs)
    ⟨grown_refl _ _, _, HQ3.out, World.ownsRow_nil _ _ _ _⟩
    (fun pre y a' W => ∃ q8, W3.heap.size ≤ q8 ∧ CAt W q8 y.h y.v ∧ a' = { tmps := #[.slice none 0 0, .pointer (some ⟨w.heap.size, 0, none⟩), .pointer (some ⟨q8, 0, none⟩), .pointer (some ⟨b, 0, none⟩), .func (.func 106) #[] #[.pointer (some ⟨x, 0, none⟩)], cv y.h y.v, undef, undef, undef, undef, undef, undef, undef, undef], defers := [] } ∧ ∃ (ya : Option Addr) (yl yc : Nat), y.v = .slice ya yl yc)
    (fun pre y a' s X Y row hs hg hr => by
      obtain ⟨q8, h8, k8, ha, hk⟩ := hs
      have hne : ∀ k cs t, X.heap[k]? = some (.cells cs t (0, 0)) → some k ≠ row := fun k cs t hk e => by
        obtain ⟨_, o, ho, hc⟩ := hr k e.symm
        rw [hk] at ho
        injection ho with ho
        subst ho
        cases hc
      exact ⟨q8, h8, grown_keep hg k8 (hne _ _ _ k8), ha, hk⟩)
    ?assign ?body ?done ?stop
  case assign =>
    rintro l pre ⟨⟨m0, m1, m2, m3, m4, m5, m6, m7⟩, yv, yps⟩ W K ⟨iW, v, bW, rW⟩ ⟨oW, eW⟩ _ hK
    simp only at oW eW
    obtain ⟨ya, yc, rfl⟩ := oW.at.form
    have FIN := hK _ (W.alloc (.cells (ccs ⟨m0, m1, m2, m3, m4, m5, m6, m7⟩ (.slice ya yps.length yc)) 56)) ((KeepsOthers.alloc _ _).from _) (fun g => grown_off g (World.grownBy_alloc _ _ none) (fun j e => by cases e)) ⟨grown_off iW (World.grownBy_alloc _ _ none) (fun j e => by cases e), v, bW.alloc _, rW.alloc _⟩ ⟨W.heap.size, iW.size, alloc_at _ _ _, rfl, ya, yps.length, yc, rfl⟩
    unfold ccs cv at FIN
    unfold cv
    simp only at FIN ⊢
    clear hK oW eW iW bW rW
    gi_wp2
    exact FIN
  case body =>
    rintro l pre ⟨⟨m0, m1, m2, m3, m4, m5, m6, m7⟩, yv, yps⟩ a' W ⟨iW, v, hv, hrow⟩ ⟨q8, h8, k8, rfl, ya, yl, yc, hkv⟩ hlen
    simp only at k8 hkv
    subst hkv
    have hc := hv.cell
    have d0 := k8.cells.1
    have d7 := k8.cells.2.2.2.2.2.2.2.1
    simp only at d0 d7
    have HI : Hid (W3.grownBy W (some w.heap.size)) := iW
    have htl : (tkN pre).length < 64 := by have h9 := tkN_len pre; have h8 := H64.out; omega
    unfold cv
    simp only
    cases m7 with
    | false =>
      have HS : Hid (tkN (pre ++ [(⟨⟨m0, m1, m2, m3, m4, m5, m6, false⟩, .slice ya yl yc, yps⟩ : Ent)]) = tkN pre) := tkN_snoc pre _
      have HF : Hid (TkI w W3 (pre ++ [⟨⟨m0, m1, m2, m3, m4, m5, m6, false⟩, .slice ya yl yc, yps⟩]) W) := by show TkI w W3 _ W; unfold TkI; rw [HS.out]; exact ⟨iW, v, hv, hrow⟩
      clear hv hrow iW
      gi_wp2
      exact ⟨(KeepsOthers.refl _).from _, fun g => g, HF.out⟩
    | true =>
      have HS : Hid (tkN (pre ++ [(⟨⟨m0, m1, m2, m3, m4, m5, m6, true⟩, .slice ya yl yc, yps⟩ : Ent)]) = tkN pre ++ [m0]) := tkN_snoc pre _
      have hr3 : ∀ (z : Value) (U : World), U.ownsRow W3.heap.size 9 1 z ((tkN pre).length + 1) ((tkN pre).map Value.string ++ [.string m0]) → U.ownsRow W3.heap.size 9 1 z (tkN (pre ++ [(⟨⟨m0, m1, m2, m3, m4, m5, m6, true⟩, .slice ya yl yc, yps⟩ : Ent)])).length ((tkN (pre ++ [(⟨⟨m0, m1, m2, m3, m4, m5, m6, true⟩, .slice ya yl yc, yps⟩ : Ent)])).map Value.string) := fun z U h => by rw [HS.out]; simpa using h
      have HR3 : Hid (∀ (z : Value) (U : World), U.ownsRow W3.heap.size 9 1 z ((tkN pre).length + 1) ((tkN pre).map Value.string ++ [.string m0]) → U.ownsRow W3.heap.size 9 1 z (tkN (pre ++ [(⟨⟨m0, m1, m2, m3, m4, m5, m6, true⟩, .slice ya yl yc, yps⟩ : Ent)])).length ((tkN (pre ++ [(⟨⟨m0, m1, m2, m3, m4, m5, m6, true⟩, .slice ya yl yc, yps⟩ : Ent)])).map Value.string)) := hr3
      clear hr3 iW
      obtain ⟨tl, htl'⟩ : ∃ n, n = (tkN pre).length := ⟨_, rfl⟩
      rw [← htl'] at hrow HR3 htl
      clear htl'
      gi_wp2_with (gi_at_builtin; refine wpListIn_append_own _ rfl _ _ 33 rfl W3.heap.size 9 i0 (.string ⟨#[]⟩) 1 16 Tryz.underlying33 hi hz0 hz1 hz2 rfl (by decide) _ _ _ rfl (hrow.alloc _) ⟨W.heap.size, 0, none⟩ 1 1 [.string m0] rfl rfl (cell_one_new _ _ _) (by simp [Value.oneCell']) (by unfold maxLen; omega) (by omega) (by have := HI.out.size; simp; omega) ?_; intro v' w1 hown' hgrow _; obtain ⟨g', cap', rfl⟩ := ownsRow_succ hown'; obtain ⟨hv1, hv2, hr2, hk2⟩ := boxed_app hv (by decide) hrow hown' hgrow; have hc1 := hv1.cell; have hf1 := hv1.frozen; have hc2 := hv2.cell)
      have GF : W3.grownBy (w1.setCell ⟨w.heap.size, 0, none⟩ (.slice (some ⟨g', 0, none⟩) (tl + 1) cap')) (some w.heap.size) := grown_trans (grown_off (grown_off HI.out (World.grownBy_alloc _ _ none) (fun j e => by cases e)) hgrow (row_low hrow)) (grown_set _ _ _ _)
      exact ⟨hk2.from _, fun _ => GF, GF, _, hv2, HR3.out _ _ hr2⟩
  case done =>
    rintro D ys W hD hS ⟨iW, v, hv, hrow⟩ hK
    have hc := hv.cell
    have ht : tkN ys = tokens := (tkN_hp (hS.trans HF2.out.row)).trans tkN_all
    rw [ht] at hrow
    gi_wp2
    refine ⟨by simp, .inl ⟨_, _, rfl, run_takeDeferred hK, ?_⟩⟩
    exact ⟨_, results_tmp rfl _ _ _, v, rfl, row_base (ownsRow_putObj hrow _ hK rfl) (by have h9 := HQl.out; omega), grown_own (grown_own HG3.out iW (fun j e => by cases e; exact Nat.le_refl _)) (grownBy_putObj' _ D _) (fun j e => by cases e; have h9 := HQl.out; omega)⟩
  case stop =>
    rintro D pre W hD _ hf
    exact hf.elim
end Go.Proofs.YtknlcjhcamhfmaaGreatDoor
