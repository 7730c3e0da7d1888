/-
  card.tellHead: the words of a card's text ahead of its parts.
-/
import Derived.Test.YtpceelbphpfciaaGreatDoorTset
import Derived.Test.YtpceelbphpfciaaGreatDoorPrint
import Derived.Maps.RangeWalk
namespace Go.Proofs.YtpceelbphpfciaaGreatDoor
open Go.RowKit

def CAtS (b : Nat) (h : Hd) (v : Value) (w : World) : Prop := CAt w b h v
theorem own_big {w : World} {base b2 : Nat} {ty : TypeId} {v : Value} {l : List Value} (h : Own w base ty v l) (hb : b2 ≤ base) : Own w b2 ty v l := by
  obtain ⟨h1, h2⟩ := h
  refine ⟨h1, ?_⟩
  rcases h2 with h2 | ⟨g, cap, cur, e, hg, h3⟩
  · exact Or.inl h2
  · exact Or.inr ⟨g, cap, cur, e, Nat.le_trans hb hg, h3⟩
theorem wp_append_at {P : Program} {w : World} {o : Oper} {a : Act} {K : Act → World → Prop} {Q : Exit → Act → World → Prop} (s x : Operand) (t : TypeId)
    (ho : o.op = .call { callee := .builtin .append, args := #[s, x], argTypes := #[t, t] })
    (base : Nat) (e : TypeId) (i : TypeInfo) (z : Value) (size bytes : Nat) (ht : P.underlying t = some (.slice e)) (hi : P.info? e = some i) (hz : i.zero = some z)
    (hsize : i.size = size) (hby : i.bytes = bytes) (hzs : z.cells.size = size) (hsz : 0 < size)
    (v : Value) (n : Nat) (xs : List Value) (hs : a.eval s = v) (hown : w.ownsRow base e size v n xs)
    (ad : Addr) (m c : Nat) (news : List Value) (hx : a.eval x = .slice (some ad) m c) (hl : news.length = m * size) (hnews : ∀ j u, news[j]? = some u → w.cell? (ad.add j) = some u) (h1 : ∀ u ∈ news, u.oneCell' = true)
    (h63 : n + m ≤ maxLen) (hbytes : (n + m) * bytes ≤ 140737488355328) (hbase : base ≤ w.heap.size)
    (h : ∀ v' w', w'.ownsRow base e size v' (n + m) (xs ++ news) → w.grownBy w' v.ownBlock → (v'.ownBlock = v.ownBlock ∨ v'.ownBlock = some w.heap.size) → K (a.put o.dst v') w') : Oper.wp P o a w K Q := by
  obtain ⟨v', w', hr, h2, h3, _, h5⟩ := run_append_own_at (P := P) w base t o.type e i z size bytes ht hi hz hsize hby hzs hsz v n xs hown ad m c news hl hnews h1 h63 hbytes hbase
  unfold Oper.wp execOp
  simp only [ho, resolve, invoke, builtin, Sem.run_bind, Sem.run_pure, Result.andThen_ok, List.map_toArray, List.map_cons, List.map_nil, hs, hx, hr]
  exact h v' w' h2 h3 h5
theorem ba_app (a b : ByteArray) : a ++ b = ⟨(a.data.toList ++ b.data.toList).toArray⟩ := by
  show a.append b = _
  apply ByteArray.ext
  simp [ByteArray.data_append]
/-- The loop over the traits: the words so far, the list, the tables. -/
structure TellR (s : Nat) (lq : Option Addr) (l : List Int) (ws : List (List UInt8)) (wr : World) (B : Nat) (k : Nat) (v : Value) : Prop where
  own : Own wr (s + 1) 9 v (pcs (ws ++ (l.take k).map fun t => 43 :: at1 traitW t))
  at_ : ∀ (j : Nat) t, l[j]? = some t → ∃ g, lq = some ⟨g, 0, none⟩ ∧ B ≤ g ∧ g < wr.heap.size ∧ wr.cell? ⟨g, j, none⟩ = some (.int .u8 t) ∧ v.ownBlock ≠ some g
  laid : LaidP wr
theorem plus_name {t : Int} (h : 1 ≤ t ∧ t ≤ 8) : (⟨#[43]⟩ : ByteArray) ++ tName t = ⟨(43 :: at1 traitW t).toArray⟩ := by
  rw [ba_app, tName_at h]
  rfl
theorem force_text (a b : List UInt8) : (⟨a.toArray⟩ : ByteArray) ++ ⟨#[47]⟩ ++ ⟨b.toArray⟩ = ⟨(a ++ 47 :: b).toArray⟩ := by
  rw [ba_app, ba_app]
  simp
theorem tName_small (t : Int) : (tName t).size ≤ 5 := by
  unfold tName
  repeat' split
  all_goals decide
theorem TellR.next {s : Nat} {lq : Option Addr} {l : List Int} {ws : List (List UInt8)} {wr w1 w' : World} {B k : Nat} {v v' : Value} {t : Int} (R : TellR s lq l ws wr B k v) (ht : l[k]? = some t) (hb : 1 ≤ t ∧ t ≤ 8) (hs : 7 < s)
    (g1 : wr.grownBy w1 none) (o : w'.ownsRow (s + 1) 9 1 v' ((ws ++ (l.take k).map fun t => 43 :: at1 traitW t).length + 1) (pcs (ws ++ (l.take k).map fun t => 43 :: at1 traitW t) ++ [.string ((⟨#[43]⟩ : ByteArray) ++ tName t)])) (g : w1.grownBy w' v.ownBlock) (hl : v'.ownBlock = v.ownBlock ∨ v'.ownBlock = some w1.heap.size) : TellR s lq l ws w' B (k + 1) v' := by
  have hk := (List.getElem?_eq_some_iff.1 ht).1
  refine ⟨?_, fun j u hu => ?_, ?_⟩
  · have e : l.take (k + 1) = l.take k ++ [t] := by rw [List.take_add_one, ht]; rfl
    rw [e, List.map_append, ← List.append_assoc, List.map_cons, List.map_nil, pcs_snoc, ← plus_name hb]
    exact own_snoc o (by rw [length_pcs])
  · obtain ⟨g0, h1, h2, h3, h4, h5⟩ := R.at_ j u hu
    have h6 := g1.size
    refine ⟨g0, h1, h2, Nat.lt_of_lt_of_le (Nat.lt_of_lt_of_le h3 h6) g.size, g.cell (g1.cell h4 (by simp)) (fun e => h5 e.symm), ?_⟩
    rcases hl with hl | hl
    · rw [hl]; exact h5
    · rw [hl]; intro e; have := Option.some.inj e; omega
  · exact (R.laid.keep g1).row g (fun x hx => by have := R.own.block x hx; omega)
theorem tell_end {s : Nat} {lq : Option Addr} {l : List Int} {ws ws2 : List (List UInt8)} {wr : World} {B : Nat} {v : Value} (R : TellR s lq l ws wr B l.length v) (h : ws ++ l.map (fun t => 43 :: at1 traitW t) = ws2) : Own wr s 9 v (pcs ws2) := by
  have := R.own
  rw [List.take_length, h] at this
  exact own_big this (Nat.le_succ _)
theorem kName_at {k : Int} (h : 1 ≤ k ∧ k ≤ 3) : kName k = ⟨(at1 kindW k).toArray⟩ := by
  rcases (show k = 1 ∨ k = 2 ∨ k = 3 by omega) with rfl | rfl | rfl <;> rfl
set_option maxRecDepth 100000 in
set_option maxHeartbeats 4000000 in
theorem tellHead_any (c : Cd) (v : Value) (M : CMay c) (w : World) (L : LaidP w) : Calls Tryz.prog 43 #[cv c.hd v] w fun e w' => ∃ u, e = .returned u ∧ Own w' w.heap.size 9 u (pcs (cheads c)) ∧ w.grownBy w' none := by
  obtain ⟨i0, hi, hz0, hz1, hz2⟩ := info_parts Tryz.info9
  have HL : Hid (LaidP w) := L
  have HM : Hid (CMay c) := M
  clear L M
  unfold cv
  go_enter Tryz.func43, Tryz.ntmps43
  go_wp2_with fail
  obtain ⟨W0, hW0⟩ : ∃ W0, W0 = w.alloc (.cells (ccs c.hd v) 40) := ⟨_, rfl⟩
  have A0 : CAt W0 w.heap.size c.hd v := by rw [hW0]; exact alloc_at w _ _
  have G0 : w.grownBy W0 none := by rw [hW0]; exact World.grownBy_alloc _ _ none
  have B0 : W0.heap.size = w.heap.size + 1 := by rw [hW0]; exact World.size_alloc _ _
  unfold ccs at hW0
  rw [← hW0]
  clear hW0
  have S0 : CAtS w.heap.size c.hd v W0.drew := A0.keep (grown_drew _)
  have L0 : Hid (LaidP W0.drew) := HL.out.keep (grown_trans G0 (grown_drew _))
  refine wp_region_held_drew (S := CAtS w.heap.size c.hd v) (by kernel_rfl) S0 (fun hHeld => ?_)
  clear hHeld
  refine wpAnyH_take (i := 0) (v := ?_) rfl (by kernel_rfl) (by kernel_rfl) (by kernel_rfl) (fun _ _ _ h => h) (Or.inl ⟨by rfl, ?_⟩) (by assumption) ?_
  rotate_left 1
  · (intro w0 hSw; go_simp; try with_reducible rfl)
  simp only [List.getElem_toArray, List.getElem_cons_zero]
  go_frame
  refine wpAnyH_take (i := 1) (v := ?_) rfl (by kernel_rfl) (by kernel_rfl) (by kernel_rfl) (fun _ _ _ h => h) (Or.inl ⟨by rfl, ?_⟩) (by assumption) ?_
  rotate_left 1
  · (intro w0 hSw; obtain ⟨c0, c1, c2, c3, c4, c5, c6, c7, c8⟩ := CAt.cells hSw; simp only [Cd.hd] at c0 c1 c2 c3 c4 c5 c6 c7; go_simp; try with_reducible rfl)
  simp only [List.getElem_toArray, List.getElem_cons_zero, List.getElem_cons_succ]
  go_frame
  refine wpAnyH_take (i := 2) (v := ?_) rfl (by kernel_rfl) (by kernel_rfl) (by kernel_rfl) (fun _ _ _ h => h) (Or.inl ⟨by rfl, ?_⟩) (by assumption) ?_
  rotate_left 1
  · (intro w0 hSw; go_simp; try with_reducible rfl)
  simp only [List.getElem_toArray, List.getElem_cons_zero, List.getElem_cons_succ]
  go_frame
  refine wpAnyH_take (i := 3) (v := ?_) rfl (by kernel_rfl) (by kernel_rfl) (by kernel_rfl) (fun _ _ _ h => h) (Or.inl ⟨by rfl, ?_⟩) (by assumption) ?_
  rotate_left 1
  · (intro w0 hSw; obtain ⟨c0, c1, c2, c3, c4, c5, c6, c7, c8⟩ := CAt.cells hSw; simp only [Cd.hd] at c0 c1 c2 c3 c4 c5 c6 c7; go_simp; try with_reducible rfl)
  simp only [List.getElem_toArray, List.getElem_cons_zero, List.getElem_cons_succ]
  go_frame
  refine wpAnyH_take (i := 5) (v := ?_) rfl (by kernel_rfl) (by kernel_rfl) (by kernel_rfl) (fun _ _ _ h => h) (Or.inl ⟨by rfl, ?_⟩) (by assumption) ?_
  rotate_left 1
  · (intro w0 hSw; go_simp; try with_reducible rfl)
  simp only [List.getElem_toArray, List.getElem_cons_zero, List.getElem_cons_succ]
  go_frame
  refine wpAnyH_take (i := 6) (v := ?_) rfl (by kernel_rfl) (by kernel_rfl) (by kernel_rfl) (fun _ _ _ h => h) (Or.inl ⟨by rfl, ?_⟩) (by assumption) ?_
  rotate_left 1
  · (intro w0 hSw; obtain ⟨c0, c1, c2, c3, c4, c5, c6, c7, c8⟩ := CAt.cells hSw; simp only [Cd.hd] at c0 c1 c2 c3 c4 c5 c6 c7; go_simp; try with_reducible rfl)
  simp only [List.getElem_toArray, List.getElem_cons_zero, List.getElem_cons_succ]
  go_frame
  refine wpAnyH_take (i := 8) (v := ?_) rfl (by kernel_rfl) (by kernel_rfl) (by kernel_rfl) (fun _ _ _ h => h) (Or.inl ⟨by rfl, ?_⟩) (by assumption) ?_
  rotate_left 1
  · (intro w0 hSw; go_simp; try with_reducible rfl)
  simp only [List.getElem_toArray, List.getElem_cons_zero, List.getElem_cons_succ]
  go_frame
  refine wpAnyH_take (i := 9) (v := ?_) rfl (by kernel_rfl) (by kernel_rfl) (by kernel_rfl) (fun _ _ _ h => h) (Or.inl ⟨by rfl, ?_⟩) (by assumption) ?_
  rotate_left 1
  · (intro w0 hSw; obtain ⟨c0, c1, c2, c3, c4, c5, c6, c7, c8⟩ := CAt.cells hSw; simp only [Cd.hd] at c0 c1 c2 c3 c4 c5 c6 c7; go_simp; try with_reducible rfl)
  simp only [List.getElem_toArray, List.getElem_cons_zero, List.getElem_cons_succ]
  go_frame
  refine wpAnyH_ready (rs := [4]) (by kernel_rfl) (by simp) ?_
  refine AllReadyH.cons rfl (fun K hK => ?_) AllReadyH.nil
  simp only [List.getElem_toArray, List.getElem_cons_zero, List.getElem_cons_succ]
  go_simp
  go_at_call 80
  refine (sname_any c.su _ L0.out.su).mono ?_
  rintro e w9 ⟨rfl, h9⟩
  obtain rfl : _ = w9 := h9.symm
  refine hK.out _ _ S0 (fun hHeld2 => ?_)
  clear hK K hHeld2
  (try go_frame)
  refine wpAnyH_ready (rs := [7]) (by kernel_rfl) (by simp) ?_
  refine AllReadyH.cons rfl (fun K hK => ?_) AllReadyH.nil
  simp only [List.getElem_toArray, List.getElem_cons_zero, List.getElem_cons_succ]
  go_simp
  go_at_call 38
  refine (kword_any c.kd _).mono ?_
  rintro e w9 ⟨rfl, h9⟩
  obtain rfl : _ = w9 := h9.symm
  refine hK.out _ _ S0 (fun hHeld2 => ?_)
  clear hK K hHeld2
  (try go_frame)
  refine wpAnyH_ready (rs := [10]) (by kernel_rfl) (by simp) ?_
  refine AllReadyH.cons rfl (fun K hK => ?_) AllReadyH.nil
  simp only [List.getElem_toArray, List.getElem_cons_zero, List.getElem_cons_succ]
  go_simp
  go_at_call 81
  refine (itoa_any c.co (by have := HM.out.co; omega) (by have := HM.out.co; omega) _ L0.out.pw).mono ?_
  rintro e w1 ⟨rfl, g1⟩
  have S1 : CAtS w.heap.size c.hd v w1 := CAt.keep S0 g1
  refine hK.out _ _ S1 (fun hHeld2 => ?_)
  clear hK K hHeld2 S0
  (try go_frame)
  refine wpAnyH_ready (rs := [11]) (by kernel_rfl) (by simp) ?_
  refine AllReadyH.cons rfl (fun K hK => ?_) AllReadyH.nil
  simp only [List.getElem_toArray, List.getElem_cons_zero, List.getElem_cons_succ]
  go_simp
  have S2 : CAtS w.heap.size c.hd v (w1.alloc (.cells #[.string c.nm, .string (sName c.su), .string (kName c.kd), .string ⟨(Lib.itoa c.co).toArray⟩] 9)) := CAt.keep S1 (World.grownBy_alloc _ _ none)
  refine hK.out _ _ S2 (fun hHeld2 => ?_)
  clear hK K hHeld2
  refine wpAnyH_take (i := 12) (v := ?_) rfl (by kernel_rfl) (by kernel_rfl) (by kernel_rfl) (fun _ _ _ h => h) (Or.inl ⟨by rfl, ?_⟩) (by assumption) ?_
  rotate_left 1
  · (intro w0 hSw; go_simp; try with_reducible rfl)
  simp only [List.getElem_toArray, List.getElem_cons_zero, List.getElem_cons_succ]
  go_frame
  refine wpAnyH_done (by kernel_rfl) ?_ _
  obtain ⟨W2, hW2⟩ : ∃ W2, W2 = w1.alloc (.cells #[.string c.nm, .string (sName c.su), .string (kName c.kd), .string ⟨(Lib.itoa c.co).toArray⟩] 9) := ⟨_, rfl⟩
  have G1 : w.grownBy w1 none := grown_trans G0 (grown_trans (grown_drew _) g1)
  have hb1 : w.heap.size < w1.heap.size := block_lt S1
  have O2 : Own W2 (w.heap.size + 1) 9 (.slice (some ⟨w1.heap.size, 0, none⟩) 4 4) (pcs [c.nm.data.toList, at1 suitW c.su, at1 kindW c.kd, Lib.itoa c.co]) := by
    have := own_block (w := W2) (base := w.heap.size + 1) (b := w1.heap.size) (cs := pcs [c.nm.data.toList, at1 suitW c.su, at1 kindW c.kd, Lib.itoa c.co]) hb1 (by
      rw [hW2]
      have e : (pcs [c.nm.data.toList, at1 suitW c.su, at1 kindW c.kd, Lib.itoa c.co]).toArray = #[.string c.nm, .string (sName c.su), .string (kName c.kd), .string ⟨(Lib.itoa c.co).toArray⟩] := by
        rw [sName_at HM.out.su, kName_at HM.out.kd]
        simp [pcs]
      rw [e]
      exact alloc_at _ _ _) (by rw [length_pcs]; unfold maxLen; simp)
    rw [length_pcs] at this
    exact this
  have G2 : w.grownBy W2 none := by rw [hW2]; exact grown_push G1 _
  have C2 : CAt W2 w.heap.size c.hd v := by rw [hW2]; exact S2
  rw [← hW2]
  clear hW2 S2 S1 g1 G1 G0 A0 L0 B0
  have HO2 : Hid (Own W2 (w.heap.size + 1) 9 (.slice (some ⟨w1.heap.size, 0, none⟩) 4 4) (pcs [c.nm.data.toList, at1 suitW c.su, at1 kindW c.kd, Lib.itoa c.co])) := O2
  have HC2 : Hid (CAt W2 w.heap.size c.hd v) := C2
  have HG2 : Hid (w.grownBy W2 none) := G2
  obtain ⟨B, hB⟩ : ∃ B, B = w1.heap.size := ⟨_, rfl⟩
  rw [← hB] at HO2 hb1 ⊢
  clear O2 C2 G2 hB
  obtain ⟨c0, c1, c2, c3, c4, c5, c6, c7, c8⟩ := HC2.out.cells
  simp only [Cd.hd] at c0 c1 c2 c3 c4 c5 c6 c7
  by_cases hk : c.kd = 1
  · rw [hk] at c2
    have hF : forceW c = [Lib.itoa c.po ++ 47 :: Lib.itoa c.he] := by simp [forceW, hk]
    have q1 := (itoa_facts (n := c.po) (by have := HM.out.po; omega)).2.2.1
    have q2 := (itoa_facts (n := c.he) (by have := HM.out.he; omega)).2.2.1
    have z1 : ¬ 9223372036854775807 < (Lib.itoa c.po).length + 1 := by omega
    have z2 : ¬ 9223372036854775807 < (Lib.itoa c.po).length + 1 + (Lib.itoa c.he).length := by omega
    clear q1 q2
    go_wp2_with fail
    have SS : CAtS w.heap.size c.hd v W2.drew := HC2.out.keep (grown_drew _)
    have L2 : Hid (LaidP W2.drew) := HL.out.keep (grown_trans HG2.out (grown_drew _))
    refine wp_region_held_drew (S := CAtS w.heap.size c.hd v) (by kernel_rfl) SS (fun hHeld => ?_)
    clear hHeld
    refine wpAnyH_take (i := 0) (v := ?_) rfl (by kernel_rfl) (by kernel_rfl) (by kernel_rfl) (fun _ _ _ h => h) (Or.inl ⟨by rfl, ?_⟩) (by assumption) ?_
    rotate_left 1
    · (intro w0 hSw; go_simp; try with_reducible rfl)
    simp only [List.getElem_toArray, List.getElem_cons_zero]
    go_frame
    refine wpAnyH_take (i := 1) (v := ?_) rfl (by kernel_rfl) (by kernel_rfl) (by kernel_rfl) (fun _ _ _ h => h) (Or.inl ⟨by rfl, ?_⟩) (by assumption) ?_
    rotate_left 1
    · (intro w0 hSw; go_simp; try with_reducible rfl)
    simp only [List.getElem_toArray, List.getElem_cons_zero, List.getElem_cons_succ]
    go_frame
    refine wpAnyH_take (i := 2) (v := ?_) rfl (by kernel_rfl) (by kernel_rfl) (by kernel_rfl) (fun _ _ _ h => h) (Or.inl ⟨by rfl, ?_⟩) (by assumption) ?_
    rotate_left 1
    · (intro w0 hSw; obtain ⟨c0, c1, c2, c3, c4, c5, c6, c7, c8⟩ := CAt.cells hSw; simp only [Cd.hd] at c0 c1 c2 c3 c4 c5 c6 c7; go_simp; try with_reducible rfl)
    simp only [List.getElem_toArray, List.getElem_cons_zero, List.getElem_cons_succ]
    go_frame
    refine wpAnyH_take (i := 5) (v := ?_) rfl (by kernel_rfl) (by kernel_rfl) (by kernel_rfl) (fun _ _ _ h => h) (Or.inl ⟨by rfl, ?_⟩) (by assumption) ?_
    rotate_left 1
    · (intro w0 hSw; go_simp; try with_reducible rfl)
    simp only [List.getElem_toArray, List.getElem_cons_zero, List.getElem_cons_succ]
    go_frame
    refine wpAnyH_take (i := 6) (v := ?_) rfl (by kernel_rfl) (by kernel_rfl) (by kernel_rfl) (fun _ _ _ h => h) (Or.inl ⟨by rfl, ?_⟩) (by assumption) ?_
    rotate_left 1
    · (intro w0 hSw; obtain ⟨c0, c1, c2, c3, c4, c5, c6, c7, c8⟩ := CAt.cells hSw; simp only [Cd.hd] at c0 c1 c2 c3 c4 c5 c6 c7; go_simp; try with_reducible rfl)
    simp only [List.getElem_toArray, List.getElem_cons_zero, List.getElem_cons_succ]
    go_frame
    refine wpAnyH_ready (rs := [3]) (by kernel_rfl) (by simp) ?_
    refine AllReadyH.cons rfl (fun K hK => ?_) AllReadyH.nil
    simp only [List.getElem_toArray, List.getElem_cons_zero, List.getElem_cons_succ]
    go_simp
    go_at_call 81
    refine (itoa_any c.po (by have := HM.out.po; omega) (by have := HM.out.po; omega) _ L2.out.pw).mono ?_
    rintro e w3 ⟨rfl, g3⟩
    have S3 : CAtS w.heap.size c.hd v w3 := CAt.keep SS g3
    have L3 : Hid (LaidP w3) := L2.out.keep g3
    refine hK.out _ _ S3 (fun hHeld2 => ?_)
    clear hK K hHeld2 SS L2
    (try go_frame)
    refine wpAnyH_take (i := 4) (v := ?_) rfl (by kernel_rfl) (by kernel_rfl) (by kernel_rfl) (fun _ _ _ h => h) (Or.inl ⟨by rfl, ?_⟩) (by assumption) ?_
    rotate_left 1
    · (intro w0 hSw; go_simp; try with_reducible rfl)
    simp only [List.getElem_toArray, List.getElem_cons_zero, List.getElem_cons_succ]
    go_frame
    refine wpAnyH_ready (rs := [7]) (by kernel_rfl) (by simp) ?_
    refine AllReadyH.cons rfl (fun K hK => ?_) AllReadyH.nil
    simp only [List.getElem_toArray, List.getElem_cons_zero, List.getElem_cons_succ]
    go_simp
    go_at_call 81
    refine (itoa_any c.he (by have := HM.out.he; omega) (by have := HM.out.he; omega) _ L3.out.pw).mono ?_
    rintro e w4 ⟨rfl, g4⟩
    have S4 : CAtS w.heap.size c.hd v w4 := CAt.keep S3 g4
    refine hK.out _ _ S4 (fun hHeld2 => ?_)
    clear hK K hHeld2 S3
    (try go_frame)
    refine wpAnyH_take (i := 8) (v := ?_) rfl (by kernel_rfl) (by kernel_rfl) (by kernel_rfl) (fun _ _ _ h => h) (Or.inl ⟨by rfl, ?_⟩) (by assumption) ?_
    rotate_left 1
    · (intro w0 hSw; go_simp; try with_reducible rfl)
    simp only [List.getElem_toArray, List.getElem_cons_zero, List.getElem_cons_succ]
    go_frame
    refine wpAnyH_ready (rs := [9]) (by kernel_rfl) (by simp) ?_
    refine AllReadyH.cons rfl (fun K hK => ?_) AllReadyH.nil
    simp only [List.getElem_toArray, List.getElem_cons_zero, List.getElem_cons_succ]
    go_simp
    have S5 : CAtS w.heap.size c.hd v (w4.alloc (.cells #[.string ((⟨(Lib.itoa c.po).toArray⟩ : ByteArray) ++ ⟨#[47]⟩ ++ ⟨(Lib.itoa c.he).toArray⟩)] 9)) := CAt.keep S4 (World.grownBy_alloc _ _ none)
    refine hK.out _ _ S5 (fun hHeld2 => ?_)
    clear hK K hHeld2
    refine wpAnyH_ready (rs := [10]) (by kernel_rfl) (by simp) ?_
    refine AllReadyH.cons rfl (fun K hK => ?_) AllReadyH.nil
    rw [if_pos (by rfl)]
    have O4 : (w4.alloc (.cells #[.string ((⟨(Lib.itoa c.po).toArray⟩ : ByteArray) ++ ⟨#[47]⟩ ++ ⟨(Lib.itoa c.he).toArray⟩)] 9)).ownsRow (w.heap.size + 1) 9 1 (.slice (some ⟨B, 0, none⟩) 4 4) 4 (pcs [c.nm.data.toList, at1 suitW c.su, at1 kindW c.kd, Lib.itoa c.co]) := HO2.out.keep (grown_push (grown_trans (grown_drew _) (grown_trans g3 g4)) _) (by simp)
    have hs4 : w.heap.size + 1 ≤ (w4.alloc (.cells #[.string ((⟨(Lib.itoa c.po).toArray⟩ : ByteArray) ++ ⟨#[47]⟩ ++ ⟨(Lib.itoa c.he).toArray⟩)] 9)).heap.size := by
      have := block_lt S5
      omega
    refine wp_append_at (.tmp 21) (.tmp 30) 57 rfl (w.heap.size + 1) 9 i0 (.string ByteArray.empty) 1 16 Tryz.underlying57 hi hz0 hz1 hz2 rfl (by decide) _ 4 _ rfl O4 ⟨w4.heap.size, 0, none⟩ 1 1 [.string ((⟨(Lib.itoa c.po).toArray⟩ : ByteArray) ++ ⟨#[47]⟩ ++ ⟨(Lib.itoa c.he).toArray⟩)] rfl rfl (cell_one_new _ _ _) (fun x hx => by simp at hx; subst hx; rfl) (by unfold maxLen; decide) (by decide) hs4 ?_
    intro v5 w5 o5 g5 l5
    have S6 : CAtS w.heap.size c.hd v w5 := grown_keep g5 S5 (fun e => absurd (Option.some.inj e) (Nat.ne_of_lt hb1))
    refine hK.out _ _ S6 (fun hHeld2 => ?_)
    clear hK K hHeld2
    (try go_frame)
    refine wpAnyH_take (i := 11) (v := ?_) rfl (by kernel_rfl) (by kernel_rfl) (by kernel_rfl) (fun _ _ _ h => h) (Or.inl ⟨by rfl, ?_⟩) (by assumption) ?_
    rotate_left 1
    · (intro w0 hSw; go_simp; try with_reducible rfl)
    simp only [List.getElem_toArray, List.getElem_cons_zero, List.getElem_cons_succ]
    go_frame
    refine wpAnyH_done (by kernel_rfl) ?_ _
    have O5 : Own w5 (w.heap.size + 1) 9 v5 (pcs ([c.nm.data.toList, at1 suitW c.su, at1 kindW c.kd, Lib.itoa c.co] ++ [Lib.itoa c.po ++ 47 :: Lib.itoa c.he])) := by
      rw [pcs_snoc, ← force_text]
      exact own_snoc o5 rfl
    have C5 : CAt w5 w.heap.size c.hd v := S6
    have G5 : w.grownBy w5 none := grown_own (grown_push (grown_trans HG2.out (grown_trans (grown_drew _) (grown_trans g3 g4))) _) g5 (fun x hx => by cases hx; exact Nat.le_of_lt hb1)
    obtain ⟨W5, hW5⟩ : ∃ W5, W5 = w5 := ⟨_, rfl⟩
    rw [← hW5] at O5 C5 G5 ⊢
    clear hW5 o5 g5 l5 S6 S5 O4 hs4 g3 g4 S4 HO2 HC2 HG2 c0 c1 c2 c3 c4 c5 c6 c7 c8
    obtain ⟨q, cp, ev⟩ := O5.form
    rw [length_pcs] at ev
    subst ev
    obtain ⟨n, hn⟩ : ∃ n, n = ([c.nm.data.toList, at1 suitW c.su, at1 kindW c.kd, Lib.itoa c.co] ++ [Lib.itoa c.po ++ 47 :: Lib.itoa c.he]).length := ⟨_, rfl⟩
    rw [← hn] at O5 ⊢
    have hn6 : n ≤ 5 := by rw [hn]; simp
    have HN : Hid (n = ([c.nm.data.toList, at1 suitW c.su, at1 kindW c.kd, Lib.itoa c.co] ++ [Lib.itoa c.po ++ 47 :: Lib.itoa c.he]).length) := hn
    obtain ⟨c0, c1, c2, c3, c4, c5, c6, c7, c8⟩ := C5.cells
    simp only [Cd.hd] at c0 c1 c2 c3 c4 c5 c6 c7
    have HO5 : Hid (Own W5 (w.heap.size + 1) 9 (.slice q n cp) (pcs ([c.nm.data.toList, at1 suitW c.su, at1 kindW c.kd, Lib.itoa c.co] ++ [Lib.itoa c.po ++ 47 :: Lib.itoa c.he]))) := O5
    have HC5 : Hid (CAt W5 w.heap.size c.hd v) := C5
    have HG5 : Hid (w.grownBy W5 none) := G5
    clear O5 C5 G5 hn
    cases htk : c.tk with
    | false =>
      have HWE : Hid ([c.nm.data.toList, at1 suitW c.su, at1 kindW c.kd, Lib.itoa c.co] ++ [Lib.itoa c.po ++ 47 :: Lib.itoa c.he] ++ (tList c.tr).map (fun t => 43 :: at1 traitW t) = cheads c) := by unfold Hid; simp [cheads, tokenW, traitsW, htk, hF]
      have HWS : Hid (([c.nm.data.toList, at1 suitW c.su, at1 kindW c.kd, Lib.itoa c.co] ++ [Lib.itoa c.po ++ 47 :: Lib.itoa c.he]).length ≤ 6) := by unfold Hid; rw [← HN.out]; omega
      rw [htk] at c7
      obtain ⟨W6, hW6⟩ : ∃ W6, W6 = W5 := ⟨_, rfl⟩
      rw [← hW6] at HO5 HC5 HG5 c0 c1 c2 c3 c4 c5 c6 c7 c8 ⊢
      have HO6 := HO5
      have HC6 := HC5
      have HG6 := HG5
      clear hW6 HO5 HC5 HG5
      go_wp2_with fail
      refine (list_any c.tr _).mono ?_
      rintro e W7 ⟨lv, rfl, OL, g7⟩
      have O7 : Own W7 (w.heap.size + 1) 9 (.slice q n cp) (pcs ([c.nm.data.toList, at1 suitW c.su, at1 kindW c.kd, Lib.itoa c.co] ++ [Lib.itoa c.po ++ 47 :: Lib.itoa c.he])) := HO6.out.keep g7 (by simp)
      have G7 : w.grownBy W7 none := grown_trans HG6.out g7
      have L7 : LaidP W7 := HL.out.keep G7
      obtain ⟨lq, lcp, el⟩ := OL.form
      rw [length_u8s] at el
      subst el
      have LT : ∀ (j : Nat) t, (tList c.tr)[j]? = some t → ∃ g, lq = some ⟨g, 0, none⟩ ∧ W6.heap.size ≤ g ∧ g < W7.heap.size ∧ W7.cell? ⟨g, j, none⟩ = some (.int .u8 t) := fun j t ht => by
        rcases OL.at with ⟨_, e⟩ | ⟨g, cap, e, hb, hlt, _, hc⟩
        · have : tList c.tr = [] := by simpa [u8s] using e
          rw [this] at ht
          simp at ht
        · injection e with e1 _ _
          exact ⟨g, e1, hb, hlt, (hc j _ (by simp [u8s, ht])).1⟩
      have NB : ∀ k, (Value.slice q n cp).ownBlock = some k → k < W6.heap.size := fun k hk => by
        obtain ⟨_, ⟨e, _⟩ | ⟨g, cap, cur, e, hb, hh, _⟩⟩ := HO6.out
        · rw [e] at hk
          cases hk
        · rw [e] at hk
          cases hk
          exact block_lt hh
      have H7 : Hid (TellR w.heap.size lq (tList c.tr) ([c.nm.data.toList, at1 suitW c.su, at1 kindW c.kd, Lib.itoa c.co] ++ [Lib.itoa c.po ++ 47 :: Lib.itoa c.he]) W7 W6.heap.size 0 (.slice q n cp)) := ⟨by simpa using O7, fun j t ht => by
        obtain ⟨g, e, h1, h2, h3⟩ := LT j t ht
        exact ⟨g, e, h1, h2, h3, fun e2 => by have := NB g e2; omega⟩, L7⟩
      have HG7 : Hid (w.grownBy W7 none) := G7
      clear O7 G7 L7 OL LT NB g7 HO6 HC6 HG6
      go_wp2_with fail
      go_loopw [3, 41] (fun v3 i wr => ∃ k : Nat, k ≤ (tList c.tr).length ∧ i = .int .i64 k ∧ TellR w.heap.size lq (tList c.tr) ([c.nm.data.toList, at1 suitW c.su, at1 kindW c.kd, Lib.itoa c.co] ++ [Lib.itoa c.po ++ 47 :: Lib.itoa c.he]) wr W6.heap.size k v3 ∧ w.grownBy wr none) (fun _ i _ => (tList c.tr).length - (intOf i).toNat)
      case atStart => exact ⟨0, Nat.zero_le _, rfl, H7.out, HG7.out⟩
      case round =>
        obtain ⟨k, hk, rfl, R, G⟩ := hrel
        obtain ⟨vq, vcp, ev⟩ := R.own.form
        rw [length_pcs] at ev
        subst ev
        obtain ⟨vn, hvn⟩ : ∃ vn, vn = ([c.nm.data.toList, at1 suitW c.su, at1 kindW c.kd, Lib.itoa c.co] ++ [Lib.itoa c.po ++ 47 :: Lib.itoa c.he] ++ ((tList c.tr).take k).map fun t => 43 :: at1 traitW t).length := ⟨_, rfl⟩
        rw [← hvn] at R ⊢
        have h8 : (tList c.tr).length ≤ 8 := upto_len _ 8
        have hvs : vn ≤ 20 := by
          rw [hvn, List.length_append, List.length_map, List.length_take]
          have : ([c.nm.data.toList, at1 suitW c.su, at1 kindW c.kd, Lib.itoa c.co] ++ [Lib.itoa c.po ++ 47 :: Lib.itoa c.he]).length ≤ 6 := HWS.out
          omega
        have HR : Hid (TellR w.heap.size lq (tList c.tr) ([c.nm.data.toList, at1 suitW c.su, at1 kindW c.kd, Lib.itoa c.co] ++ [Lib.itoa c.po ++ 47 :: Lib.itoa c.he]) wr W6.heap.size k (.slice vq vn vcp)) := R
        have HG : Hid (w.grownBy wr none) := G
        have HV : Hid (vn = ([c.nm.data.toList, at1 suitW c.su, at1 kindW c.kd, Lib.itoa c.co] ++ [Lib.itoa c.po ++ 47 :: Lib.itoa c.he] ++ ((tList c.tr).take k).map fun t => 43 :: at1 traitW t).length) := hvn
        clear R G H7 HG7 hvn
        rcases (show k = (tList c.tr).length ∨ k < (tList c.tr).length from by omega) with rfl | hlt
        · go_wp2
          go_ret
          exact ⟨_, rfl, tell_end HR.out HWE.out, HG.out⟩
        · have hlt' : (k : Int) < ((tList c.tr).length : Int) := by omega
          have hk0 : (0 : Int) ≤ (k : Int) := by omega
          have hw : wrap64 ((k : Int) + 1) = (k : Int) + 1 := by unfold wrap64; omega
          obtain ⟨t, ht⟩ : ∃ t, (tList c.tr)[k]? = some t := ⟨_, List.getElem?_eq_getElem hlt⟩
          obtain ⟨g, rfl, hg1, hg2, ct, hne⟩ := HR.out.at_ k t ht
          have tb := list_mem (List.mem_of_getElem? ht)
          have zt : ¬ 9223372036854775807 < 1 + (tName t).size := by have := tName_small t; omega
          have HT : Hid ((tList c.tr)[k]? = some t) := ht
          have HTB : Hid (1 ≤ t ∧ t ≤ 8) := tb
          have HVS : Hid (vn ≤ 20) := hvs
          have hs1 : Hid (w.heap.size + 1 ≤ wr.heap.size + 1) := by have := HG.out.size; unfold Hid; omega
          clear ht tb hne hg1 hg2 hvs h8 hk
          go_wp2_with (first | (go_at_call 83; refine (tname_any t _ HR.out.laid.tr).mono ?_; rintro e w9 ⟨rfl, h9⟩; obtain rfl : wr = w9 := h9.symm) | (at_builtin; refine wpList_append_own_at _ rfl (.tmp 45) (.tmp 49) 57 rfl (w.heap.size + 1) 9 i0 (.string ByteArray.empty) 1 16 Tryz.underlying57 hi hz0 hz1 hz2 rfl (by decide) _ vn _ rfl (by rw [HV.out]; exact World.ownsRow.alloc (own_pcs (HV.out ▸ HR.out.own)) _) ⟨wr.heap.size, 0, none⟩ 1 1 [.string ((⟨#[43]⟩ : ByteArray) ++ tName t)] rfl rfl (cell_one_new _ _ _) (fun x hx => by simp at hx; subst hx; rfl) (by have := HVS.out; unfold maxLen; omega) (by have := HVS.out; omega) (by rw [World.size_alloc]; exact hs1.out) ?_; intro v8 w8 o8 g8 _ l8) | fail)
          have NX : Hid (TellR w.heap.size (some ⟨g, 0, none⟩) (tList c.tr) ([c.nm.data.toList, at1 suitW c.su, at1 kindW c.kd, Lib.itoa c.co] ++ [Lib.itoa c.po ++ 47 :: Lib.itoa c.he]) w8 W6.heap.size (k + 1) v8) := HR.out.next HT.out HTB.out HL.out.big (World.grownBy_alloc _ _ none) (HV.out ▸ o8) g8 l8
          have NG : Hid (w.grownBy w8 none) := grown_own (grown_push HG.out _) g8 (fun x hx => by have := HR.out.own.block x hx; omega)
          go_roundw
          case rel => exact ⟨k + 1, hlt, by rw [hw]; rfl, NX.out, NG.out⟩
          case measure => rw [hw]; exact meas_next hlt
    | true =>
      have HWE : Hid (([c.nm.data.toList, at1 suitW c.su, at1 kindW c.kd, Lib.itoa c.co] ++ [Lib.itoa c.po ++ 47 :: Lib.itoa c.he]) ++ [tokW] ++ (tList c.tr).map (fun t => 43 :: at1 traitW t) = cheads c) := by unfold Hid; simp [cheads, tokenW, traitsW, htk, hF]
      have HWS : Hid ((([c.nm.data.toList, at1 suitW c.su, at1 kindW c.kd, Lib.itoa c.co] ++ [Lib.itoa c.po ++ 47 :: Lib.itoa c.he]) ++ [tokW]).length ≤ 6) := by unfold Hid; rw [List.length_append, ← HN.out]; simp; omega
      rw [htk] at c7
      have hs5 : Hid (w.heap.size + 1 ≤ W5.heap.size + 1) := by have := HG5.out.size; unfold Hid; omega
      go_wp2_with (first | (at_builtin; refine wpList_append_own_at _ rfl (.tmp 34) (.tmp 35) 57 rfl (w.heap.size + 1) 9 i0 (.string ByteArray.empty) 1 16 Tryz.underlying57 hi hz0 hz1 hz2 rfl (by decide) _ n _ rfl (by rw [HN.out]; exact World.ownsRow.alloc (own_pcs (HN.out ▸ HO5.out)) _) ⟨W5.heap.size, 0, none⟩ 1 1 [.string ⟨#[116, 111, 107, 101, 110]⟩] rfl rfl (cell_one_new _ _ _) (fun x hx => by simp at hx; subst hx; rfl) (by unfold maxLen; omega) (by omega) (by rw [World.size_alloc]; exact hs5.out) ?_; intro v6 W6 o6 g6 _ _; have O6 : Own W6 (w.heap.size + 1) 9 v6 (pcs (([c.nm.data.toList, at1 suitW c.su, at1 kindW c.kd, Lib.itoa c.co] ++ [Lib.itoa c.po ++ 47 :: Lib.itoa c.he]) ++ [tokW])) := (by rw [pcs_snoc]; exact own_snoc (HN.out ▸ o6) (by rw [length_pcs])); have C6 : CAt W6 w.heap.size c.hd v := grown_keep g6 (HC5.out.keep (World.grownBy_alloc _ _ none)) (fun e => by have := HO5.out.block _ e.symm; omega); have G6 : w.grownBy W6 none := grown_own (grown_push HG5.out _) g6 (fun x hx => by have := HO5.out.block x hx; omega); have d6 := C6.cells.2.2.2.2.2.2.1; simp only [Cd.hd] at d6) | fail)
      obtain ⟨q, cp, ev⟩ := O6.form
      rw [length_pcs] at ev
      subst ev
      obtain ⟨n, hn⟩ : ∃ n, n = (([c.nm.data.toList, at1 suitW c.su, at1 kindW c.kd, Lib.itoa c.co] ++ [Lib.itoa c.po ++ 47 :: Lib.itoa c.he]) ++ [tokW]).length := ⟨_, rfl⟩
      rw [← hn] at O6 ⊢
      have HO6 : Hid (Own W6 (w.heap.size + 1) 9 (.slice q n cp) (pcs (([c.nm.data.toList, at1 suitW c.su, at1 kindW c.kd, Lib.itoa c.co] ++ [Lib.itoa c.po ++ 47 :: Lib.itoa c.he]) ++ [tokW]))) := O6
      have HC6 : Hid (CAt W6 w.heap.size c.hd v) := C6
      have HG6 : Hid (w.grownBy W6 none) := G6
      clear O6 C6 G6 hn o6 g6 HO5 HC5 HG5
      refine (list_any c.tr _).mono ?_
      rintro e W7 ⟨lv, rfl, OL, g7⟩
      have O7 : Own W7 (w.heap.size + 1) 9 (.slice q n cp) (pcs (([c.nm.data.toList, at1 suitW c.su, at1 kindW c.kd, Lib.itoa c.co] ++ [Lib.itoa c.po ++ 47 :: Lib.itoa c.he]) ++ [tokW])) := HO6.out.keep g7 (by simp)
      have G7 : w.grownBy W7 none := grown_trans HG6.out g7
      have L7 : LaidP W7 := HL.out.keep G7
      obtain ⟨lq, lcp, el⟩ := OL.form
      rw [length_u8s] at el
      subst el
      have LT : ∀ (j : Nat) t, (tList c.tr)[j]? = some t → ∃ g, lq = some ⟨g, 0, none⟩ ∧ W6.heap.size ≤ g ∧ g < W7.heap.size ∧ W7.cell? ⟨g, j, none⟩ = some (.int .u8 t) := fun j t ht => by
        rcases OL.at with ⟨_, e⟩ | ⟨g, cap, e, hb, hlt, _, hc⟩
        · have : tList c.tr = [] := by simpa [u8s] using e
          rw [this] at ht
          simp at ht
        · injection e with e1 _ _
          exact ⟨g, e1, hb, hlt, (hc j _ (by simp [u8s, ht])).1⟩
      have NB : ∀ k, (Value.slice q n cp).ownBlock = some k → k < W6.heap.size := fun k hk => by
        obtain ⟨_, ⟨e, _⟩ | ⟨g, cap, cur, e, hb, hh, _⟩⟩ := HO6.out
        · rw [e] at hk
          cases hk
        · rw [e] at hk
          cases hk
          exact block_lt hh
      have H7 : Hid (TellR w.heap.size lq (tList c.tr) (([c.nm.data.toList, at1 suitW c.su, at1 kindW c.kd, Lib.itoa c.co] ++ [Lib.itoa c.po ++ 47 :: Lib.itoa c.he]) ++ [tokW]) W7 W6.heap.size 0 (.slice q n cp)) := ⟨by simpa using O7, fun j t ht => by
        obtain ⟨g, e, h1, h2, h3⟩ := LT j t ht
        exact ⟨g, e, h1, h2, h3, fun e2 => by have := NB g e2; omega⟩, L7⟩
      have HG7 : Hid (w.grownBy W7 none) := G7
      clear O7 G7 L7 OL LT NB g7 HO6 HC6 HG6
      go_wp2_with fail
      go_loopw [3, 41] (fun v3 i wr => ∃ k : Nat, k ≤ (tList c.tr).length ∧ i = .int .i64 k ∧ TellR w.heap.size lq (tList c.tr) (([c.nm.data.toList, at1 suitW c.su, at1 kindW c.kd, Lib.itoa c.co] ++ [Lib.itoa c.po ++ 47 :: Lib.itoa c.he]) ++ [tokW]) wr W6.heap.size k v3 ∧ w.grownBy wr none) (fun _ i _ => (tList c.tr).length - (intOf i).toNat)
      case atStart => exact ⟨0, Nat.zero_le _, rfl, H7.out, HG7.out⟩
      case round =>
        obtain ⟨k, hk, rfl, R, G⟩ := hrel
        obtain ⟨vq, vcp, ev⟩ := R.own.form
        rw [length_pcs] at ev
        subst ev
        obtain ⟨vn, hvn⟩ : ∃ vn, vn = (([c.nm.data.toList, at1 suitW c.su, at1 kindW c.kd, Lib.itoa c.co] ++ [Lib.itoa c.po ++ 47 :: Lib.itoa c.he]) ++ [tokW] ++ ((tList c.tr).take k).map fun t => 43 :: at1 traitW t).length := ⟨_, rfl⟩
        rw [← hvn] at R ⊢
        have h8 : (tList c.tr).length ≤ 8 := upto_len _ 8
        have hvs : vn ≤ 20 := by
          rw [hvn, List.length_append, List.length_map, List.length_take]
          have : (([c.nm.data.toList, at1 suitW c.su, at1 kindW c.kd, Lib.itoa c.co] ++ [Lib.itoa c.po ++ 47 :: Lib.itoa c.he]) ++ [tokW]).length ≤ 6 := HWS.out
          omega
        have HR : Hid (TellR w.heap.size lq (tList c.tr) (([c.nm.data.toList, at1 suitW c.su, at1 kindW c.kd, Lib.itoa c.co] ++ [Lib.itoa c.po ++ 47 :: Lib.itoa c.he]) ++ [tokW]) wr W6.heap.size k (.slice vq vn vcp)) := R
        have HG : Hid (w.grownBy wr none) := G
        have HV : Hid (vn = (([c.nm.data.toList, at1 suitW c.su, at1 kindW c.kd, Lib.itoa c.co] ++ [Lib.itoa c.po ++ 47 :: Lib.itoa c.he]) ++ [tokW] ++ ((tList c.tr).take k).map fun t => 43 :: at1 traitW t).length) := hvn
        clear R G H7 HG7 hvn
        rcases (show k = (tList c.tr).length ∨ k < (tList c.tr).length from by omega) with rfl | hlt
        · go_wp2
          go_ret
          exact ⟨_, rfl, tell_end HR.out HWE.out, HG.out⟩
        · have hlt' : (k : Int) < ((tList c.tr).length : Int) := by omega
          have hk0 : (0 : Int) ≤ (k : Int) := by omega
          have hw : wrap64 ((k : Int) + 1) = (k : Int) + 1 := by unfold wrap64; omega
          obtain ⟨t, ht⟩ : ∃ t, (tList c.tr)[k]? = some t := ⟨_, List.getElem?_eq_getElem hlt⟩
          obtain ⟨g, rfl, hg1, hg2, ct, hne⟩ := HR.out.at_ k t ht
          have tb := list_mem (List.mem_of_getElem? ht)
          have zt : ¬ 9223372036854775807 < 1 + (tName t).size := by have := tName_small t; omega
          have HT : Hid ((tList c.tr)[k]? = some t) := ht
          have HTB : Hid (1 ≤ t ∧ t ≤ 8) := tb
          have HVS : Hid (vn ≤ 20) := hvs
          have hs1 : Hid (w.heap.size + 1 ≤ wr.heap.size + 1) := by have := HG.out.size; unfold Hid; omega
          clear ht tb hne hg1 hg2 hvs h8 hk
          go_wp2_with (first | (go_at_call 83; refine (tname_any t _ HR.out.laid.tr).mono ?_; rintro e w9 ⟨rfl, h9⟩; obtain rfl : wr = w9 := h9.symm) | (at_builtin; refine wpList_append_own_at _ rfl (.tmp 45) (.tmp 49) 57 rfl (w.heap.size + 1) 9 i0 (.string ByteArray.empty) 1 16 Tryz.underlying57 hi hz0 hz1 hz2 rfl (by decide) _ vn _ rfl (by rw [HV.out]; exact World.ownsRow.alloc (own_pcs (HV.out ▸ HR.out.own)) _) ⟨wr.heap.size, 0, none⟩ 1 1 [.string ((⟨#[43]⟩ : ByteArray) ++ tName t)] rfl rfl (cell_one_new _ _ _) (fun x hx => by simp at hx; subst hx; rfl) (by have := HVS.out; unfold maxLen; omega) (by have := HVS.out; omega) (by rw [World.size_alloc]; exact hs1.out) ?_; intro v8 w8 o8 g8 _ l8) | fail)
          have NX : Hid (TellR w.heap.size (some ⟨g, 0, none⟩) (tList c.tr) (([c.nm.data.toList, at1 suitW c.su, at1 kindW c.kd, Lib.itoa c.co] ++ [Lib.itoa c.po ++ 47 :: Lib.itoa c.he]) ++ [tokW]) w8 W6.heap.size (k + 1) v8) := HR.out.next HT.out HTB.out HL.out.big (World.grownBy_alloc _ _ none) (HV.out ▸ o8) g8 l8
          have NG : Hid (w.grownBy w8 none) := grown_own (grown_push HG.out _) g8 (fun x hx => by have := HR.out.own.block x hx; omega)
          go_roundw
          case rel => exact ⟨k + 1, hlt, by rw [hw]; rfl, NX.out, NG.out⟩
          case measure => rw [hw]; exact meas_next hlt
  · have hk' : (c.kd == 1) = false := beqi_no hk
    have hF : forceW c = [] := by simp [forceW, hk]
    have O5 := HO2.out
    have C5 := HC2.out
    have G5 := HG2.out
    obtain ⟨v5, hv5⟩ : ∃ v5, v5 = Value.slice (some ⟨B, 0, none⟩) 4 4 := ⟨_, rfl⟩
    obtain ⟨W5, hW5⟩ : ∃ W5, W5 = W2 := ⟨_, rfl⟩
    rw [← hv5] at O5 ⊢
    rw [← hW5] at O5 C5 G5 ⊢
    clear hW5 hv5 HO2 HC2 HG2 c0 c1 c2 c3 c4 c5 c6 c7 c8
    obtain ⟨q, cp, ev⟩ := O5.form
    rw [length_pcs] at ev
    subst ev
    obtain ⟨n, hn⟩ : ∃ n, n = ([c.nm.data.toList, at1 suitW c.su, at1 kindW c.kd, Lib.itoa c.co]).length := ⟨_, rfl⟩
    rw [← hn] at O5 ⊢
    have hn6 : n ≤ 5 := by rw [hn]; simp
    have HN : Hid (n = ([c.nm.data.toList, at1 suitW c.su, at1 kindW c.kd, Lib.itoa c.co]).length) := hn
    obtain ⟨c0, c1, c2, c3, c4, c5, c6, c7, c8⟩ := C5.cells
    simp only [Cd.hd] at c0 c1 c2 c3 c4 c5 c6 c7
    have HO5 : Hid (Own W5 (w.heap.size + 1) 9 (.slice q n cp) (pcs ([c.nm.data.toList, at1 suitW c.su, at1 kindW c.kd, Lib.itoa c.co]))) := O5
    have HC5 : Hid (CAt W5 w.heap.size c.hd v) := C5
    have HG5 : Hid (w.grownBy W5 none) := G5
    clear O5 C5 G5 hn
    cases htk : c.tk with
    | false =>
      have HWE : Hid ([c.nm.data.toList, at1 suitW c.su, at1 kindW c.kd, Lib.itoa c.co] ++ (tList c.tr).map (fun t => 43 :: at1 traitW t) = cheads c) := by unfold Hid; simp [cheads, tokenW, traitsW, htk, hF]
      have HWS : Hid (([c.nm.data.toList, at1 suitW c.su, at1 kindW c.kd, Lib.itoa c.co]).length ≤ 6) := by unfold Hid; rw [← HN.out]; omega
      rw [htk] at c7
      obtain ⟨W6, hW6⟩ : ∃ W6, W6 = W5 := ⟨_, rfl⟩
      rw [← hW6] at HO5 HC5 HG5 c0 c1 c2 c3 c4 c5 c6 c7 c8 ⊢
      have HO6 := HO5
      have HC6 := HC5
      have HG6 := HG5
      clear hW6 HO5 HC5 HG5
      go_wp2_with fail
      refine (list_any c.tr _).mono ?_
      rintro e W7 ⟨lv, rfl, OL, g7⟩
      have O7 : Own W7 (w.heap.size + 1) 9 (.slice q n cp) (pcs ([c.nm.data.toList, at1 suitW c.su, at1 kindW c.kd, Lib.itoa c.co])) := HO6.out.keep g7 (by simp)
      have G7 : w.grownBy W7 none := grown_trans HG6.out g7
      have L7 : LaidP W7 := HL.out.keep G7
      obtain ⟨lq, lcp, el⟩ := OL.form
      rw [length_u8s] at el
      subst el
      have LT : ∀ (j : Nat) t, (tList c.tr)[j]? = some t → ∃ g, lq = some ⟨g, 0, none⟩ ∧ W6.heap.size ≤ g ∧ g < W7.heap.size ∧ W7.cell? ⟨g, j, none⟩ = some (.int .u8 t) := fun j t ht => by
        rcases OL.at with ⟨_, e⟩ | ⟨g, cap, e, hb, hlt, _, hc⟩
        · have : tList c.tr = [] := by simpa [u8s] using e
          rw [this] at ht
          simp at ht
        · injection e with e1 _ _
          exact ⟨g, e1, hb, hlt, (hc j _ (by simp [u8s, ht])).1⟩
      have NB : ∀ k, (Value.slice q n cp).ownBlock = some k → k < W6.heap.size := fun k hk => by
        obtain ⟨_, ⟨e, _⟩ | ⟨g, cap, cur, e, hb, hh, _⟩⟩ := HO6.out
        · rw [e] at hk
          cases hk
        · rw [e] at hk
          cases hk
          exact block_lt hh
      have H7 : Hid (TellR w.heap.size lq (tList c.tr) ([c.nm.data.toList, at1 suitW c.su, at1 kindW c.kd, Lib.itoa c.co]) W7 W6.heap.size 0 (.slice q n cp)) := ⟨by simpa using O7, fun j t ht => by
        obtain ⟨g, e, h1, h2, h3⟩ := LT j t ht
        exact ⟨g, e, h1, h2, h3, fun e2 => by have := NB g e2; omega⟩, L7⟩
      have HG7 : Hid (w.grownBy W7 none) := G7
      clear O7 G7 L7 OL LT NB g7 HO6 HC6 HG6
      go_wp2_with fail
      go_loopw [3, 41] (fun v3 i wr => ∃ k : Nat, k ≤ (tList c.tr).length ∧ i = .int .i64 k ∧ TellR w.heap.size lq (tList c.tr) ([c.nm.data.toList, at1 suitW c.su, at1 kindW c.kd, Lib.itoa c.co]) wr W6.heap.size k v3 ∧ w.grownBy wr none) (fun _ i _ => (tList c.tr).length - (intOf i).toNat)
      case atStart => exact ⟨0, Nat.zero_le _, rfl, H7.out, HG7.out⟩
      case round =>
        obtain ⟨k, hk, rfl, R, G⟩ := hrel
        obtain ⟨vq, vcp, ev⟩ := R.own.form
        rw [length_pcs] at ev
        subst ev
        obtain ⟨vn, hvn⟩ : ∃ vn, vn = ([c.nm.data.toList, at1 suitW c.su, at1 kindW c.kd, Lib.itoa c.co] ++ ((tList c.tr).take k).map fun t => 43 :: at1 traitW t).length := ⟨_, rfl⟩
        rw [← hvn] at R ⊢
        have h8 : (tList c.tr).length ≤ 8 := upto_len _ 8
        have hvs : vn ≤ 20 := by
          rw [hvn, List.length_append, List.length_map, List.length_take]
          have : ([c.nm.data.toList, at1 suitW c.su, at1 kindW c.kd, Lib.itoa c.co]).length ≤ 6 := HWS.out
          omega
        have HR : Hid (TellR w.heap.size lq (tList c.tr) ([c.nm.data.toList, at1 suitW c.su, at1 kindW c.kd, Lib.itoa c.co]) wr W6.heap.size k (.slice vq vn vcp)) := R
        have HG : Hid (w.grownBy wr none) := G
        have HV : Hid (vn = ([c.nm.data.toList, at1 suitW c.su, at1 kindW c.kd, Lib.itoa c.co] ++ ((tList c.tr).take k).map fun t => 43 :: at1 traitW t).length) := hvn
        clear R G H7 HG7 hvn
        rcases (show k = (tList c.tr).length ∨ k < (tList c.tr).length from by omega) with rfl | hlt
        · go_wp2
          go_ret
          exact ⟨_, rfl, tell_end HR.out HWE.out, HG.out⟩
        · have hlt' : (k : Int) < ((tList c.tr).length : Int) := by omega
          have hk0 : (0 : Int) ≤ (k : Int) := by omega
          have hw : wrap64 ((k : Int) + 1) = (k : Int) + 1 := by unfold wrap64; omega
          obtain ⟨t, ht⟩ : ∃ t, (tList c.tr)[k]? = some t := ⟨_, List.getElem?_eq_getElem hlt⟩
          obtain ⟨g, rfl, hg1, hg2, ct, hne⟩ := HR.out.at_ k t ht
          have tb := list_mem (List.mem_of_getElem? ht)
          have zt : ¬ 9223372036854775807 < 1 + (tName t).size := by have := tName_small t; omega
          have HT : Hid ((tList c.tr)[k]? = some t) := ht
          have HTB : Hid (1 ≤ t ∧ t ≤ 8) := tb
          have HVS : Hid (vn ≤ 20) := hvs
          have hs1 : Hid (w.heap.size + 1 ≤ wr.heap.size + 1) := by have := HG.out.size; unfold Hid; omega
          clear ht tb hne hg1 hg2 hvs h8 hk
          go_wp2_with (first | (go_at_call 83; refine (tname_any t _ HR.out.laid.tr).mono ?_; rintro e w9 ⟨rfl, h9⟩; obtain rfl : wr = w9 := h9.symm) | (at_builtin; refine wpList_append_own_at _ rfl (.tmp 45) (.tmp 49) 57 rfl (w.heap.size + 1) 9 i0 (.string ByteArray.empty) 1 16 Tryz.underlying57 hi hz0 hz1 hz2 rfl (by decide) _ vn _ rfl (by rw [HV.out]; exact World.ownsRow.alloc (own_pcs (HV.out ▸ HR.out.own)) _) ⟨wr.heap.size, 0, none⟩ 1 1 [.string ((⟨#[43]⟩ : ByteArray) ++ tName t)] rfl rfl (cell_one_new _ _ _) (fun x hx => by simp at hx; subst hx; rfl) (by have := HVS.out; unfold maxLen; omega) (by have := HVS.out; omega) (by rw [World.size_alloc]; exact hs1.out) ?_; intro v8 w8 o8 g8 _ l8) | fail)
          have NX : Hid (TellR w.heap.size (some ⟨g, 0, none⟩) (tList c.tr) ([c.nm.data.toList, at1 suitW c.su, at1 kindW c.kd, Lib.itoa c.co]) w8 W6.heap.size (k + 1) v8) := HR.out.next HT.out HTB.out HL.out.big (World.grownBy_alloc _ _ none) (HV.out ▸ o8) g8 l8
          have NG : Hid (w.grownBy w8 none) := grown_own (grown_push HG.out _) g8 (fun x hx => by have := HR.out.own.block x hx; omega)
          go_roundw
          case rel => exact ⟨k + 1, hlt, by rw [hw]; rfl, NX.out, NG.out⟩
          case measure => rw [hw]; exact meas_next hlt
    | true =>
      have HWE : Hid (([c.nm.data.toList, at1 suitW c.su, at1 kindW c.kd, Lib.itoa c.co]) ++ [tokW] ++ (tList c.tr).map (fun t => 43 :: at1 traitW t) = cheads c) := by unfold Hid; simp [cheads, tokenW, traitsW, htk, hF]
      have HWS : Hid ((([c.nm.data.toList, at1 suitW c.su, at1 kindW c.kd, Lib.itoa c.co]) ++ [tokW]).length ≤ 6) := by unfold Hid; rw [List.length_append, ← HN.out]; simp; omega
      rw [htk] at c7
      have hs5 : Hid (w.heap.size + 1 ≤ W5.heap.size + 1) := by have := HG5.out.size; unfold Hid; omega
      go_wp2_with (first | (at_builtin; refine wpList_append_own_at _ rfl (.tmp 34) (.tmp 35) 57 rfl (w.heap.size + 1) 9 i0 (.string ByteArray.empty) 1 16 Tryz.underlying57 hi hz0 hz1 hz2 rfl (by decide) _ n _ rfl (by rw [HN.out]; exact World.ownsRow.alloc (own_pcs (HN.out ▸ HO5.out)) _) ⟨W5.heap.size, 0, none⟩ 1 1 [.string ⟨#[116, 111, 107, 101, 110]⟩] rfl rfl (cell_one_new _ _ _) (fun x hx => by simp at hx; subst hx; rfl) (by unfold maxLen; omega) (by omega) (by rw [World.size_alloc]; exact hs5.out) ?_; intro v6 W6 o6 g6 _ _; have O6 : Own W6 (w.heap.size + 1) 9 v6 (pcs (([c.nm.data.toList, at1 suitW c.su, at1 kindW c.kd, Lib.itoa c.co]) ++ [tokW])) := (by rw [pcs_snoc]; exact own_snoc (HN.out ▸ o6) (by rw [length_pcs])); have C6 : CAt W6 w.heap.size c.hd v := grown_keep g6 (HC5.out.keep (World.grownBy_alloc _ _ none)) (fun e => by have := HO5.out.block _ e.symm; omega); have G6 : w.grownBy W6 none := grown_own (grown_push HG5.out _) g6 (fun x hx => by have := HO5.out.block x hx; omega); have d6 := C6.cells.2.2.2.2.2.2.1; simp only [Cd.hd] at d6) | fail)
      obtain ⟨q, cp, ev⟩ := O6.form
      rw [length_pcs] at ev
      subst ev
      obtain ⟨n, hn⟩ : ∃ n, n = (([c.nm.data.toList, at1 suitW c.su, at1 kindW c.kd, Lib.itoa c.co]) ++ [tokW]).length := ⟨_, rfl⟩
      rw [← hn] at O6 ⊢
      have HO6 : Hid (Own W6 (w.heap.size + 1) 9 (.slice q n cp) (pcs (([c.nm.data.toList, at1 suitW c.su, at1 kindW c.kd, Lib.itoa c.co]) ++ [tokW]))) := O6
      have HC6 : Hid (CAt W6 w.heap.size c.hd v) := C6
      have HG6 : Hid (w.grownBy W6 none) := G6
      clear O6 C6 G6 hn o6 g6 HO5 HC5 HG5
      refine (list_any c.tr _).mono ?_
      rintro e W7 ⟨lv, rfl, OL, g7⟩
      have O7 : Own W7 (w.heap.size + 1) 9 (.slice q n cp) (pcs (([c.nm.data.toList, at1 suitW c.su, at1 kindW c.kd, Lib.itoa c.co]) ++ [tokW])) := HO6.out.keep g7 (by simp)
      have G7 : w.grownBy W7 none := grown_trans HG6.out g7
      have L7 : LaidP W7 := HL.out.keep G7
      obtain ⟨lq, lcp, el⟩ := OL.form
      rw [length_u8s] at el
      subst el
      have LT : ∀ (j : Nat) t, (tList c.tr)[j]? = some t → ∃ g, lq = some ⟨g, 0, none⟩ ∧ W6.heap.size ≤ g ∧ g < W7.heap.size ∧ W7.cell? ⟨g, j, none⟩ = some (.int .u8 t) := fun j t ht => by
        rcases OL.at with ⟨_, e⟩ | ⟨g, cap, e, hb, hlt, _, hc⟩
        · have : tList c.tr = [] := by simpa [u8s] using e
          rw [this] at ht
          simp at ht
        · injection e with e1 _ _
          exact ⟨g, e1, hb, hlt, (hc j _ (by simp [u8s, ht])).1⟩
      have NB : ∀ k, (Value.slice q n cp).ownBlock = some k → k < W6.heap.size := fun k hk => by
        obtain ⟨_, ⟨e, _⟩ | ⟨g, cap, cur, e, hb, hh, _⟩⟩ := HO6.out
        · rw [e] at hk
          cases hk
        · rw [e] at hk
          cases hk
          exact block_lt hh
      have H7 : Hid (TellR w.heap.size lq (tList c.tr) (([c.nm.data.toList, at1 suitW c.su, at1 kindW c.kd, Lib.itoa c.co]) ++ [tokW]) W7 W6.heap.size 0 (.slice q n cp)) := ⟨by simpa using O7, fun j t ht => by
        obtain ⟨g, e, h1, h2, h3⟩ := LT j t ht
        exact ⟨g, e, h1, h2, h3, fun e2 => by have := NB g e2; omega⟩, L7⟩
      have HG7 : Hid (w.grownBy W7 none) := G7
      clear O7 G7 L7 OL LT NB g7 HO6 HC6 HG6
      go_wp2_with fail
      go_loopw [3, 41] (fun v3 i wr => ∃ k : Nat, k ≤ (tList c.tr).length ∧ i = .int .i64 k ∧ TellR w.heap.size lq (tList c.tr) (([c.nm.data.toList, at1 suitW c.su, at1 kindW c.kd, Lib.itoa c.co]) ++ [tokW]) wr W6.heap.size k v3 ∧ w.grownBy wr none) (fun _ i _ => (tList c.tr).length - (intOf i).toNat)
      case atStart => exact ⟨0, Nat.zero_le _, rfl, H7.out, HG7.out⟩
      case round =>
        obtain ⟨k, hk, rfl, R, G⟩ := hrel
        obtain ⟨vq, vcp, ev⟩ := R.own.form
        rw [length_pcs] at ev
        subst ev
        obtain ⟨vn, hvn⟩ : ∃ vn, vn = (([c.nm.data.toList, at1 suitW c.su, at1 kindW c.kd, Lib.itoa c.co]) ++ [tokW] ++ ((tList c.tr).take k).map fun t => 43 :: at1 traitW t).length := ⟨_, rfl⟩
        rw [← hvn] at R ⊢
        have h8 : (tList c.tr).length ≤ 8 := upto_len _ 8
        have hvs : vn ≤ 20 := by
          rw [hvn, List.length_append, List.length_map, List.length_take]
          have : (([c.nm.data.toList, at1 suitW c.su, at1 kindW c.kd, Lib.itoa c.co]) ++ [tokW]).length ≤ 6 := HWS.out
          omega
        have HR : Hid (TellR w.heap.size lq (tList c.tr) (([c.nm.data.toList, at1 suitW c.su, at1 kindW c.kd, Lib.itoa c.co]) ++ [tokW]) wr W6.heap.size k (.slice vq vn vcp)) := R
        have HG : Hid (w.grownBy wr none) := G
        have HV : Hid (vn = (([c.nm.data.toList, at1 suitW c.su, at1 kindW c.kd, Lib.itoa c.co]) ++ [tokW] ++ ((tList c.tr).take k).map fun t => 43 :: at1 traitW t).length) := hvn
        clear R G H7 HG7 hvn
        rcases (show k = (tList c.tr).length ∨ k < (tList c.tr).length from by omega) with rfl | hlt
        · go_wp2
          go_ret
          exact ⟨_, rfl, tell_end HR.out HWE.out, HG.out⟩
        · have hlt' : (k : Int) < ((tList c.tr).length : Int) := by omega
          have hk0 : (0 : Int) ≤ (k : Int) := by omega
          have hw : wrap64 ((k : Int) + 1) = (k : Int) + 1 := by unfold wrap64; omega
          obtain ⟨t, ht⟩ : ∃ t, (tList c.tr)[k]? = some t := ⟨_, List.getElem?_eq_getElem hlt⟩
          obtain ⟨g, rfl, hg1, hg2, ct, hne⟩ := HR.out.at_ k t ht
          have tb := list_mem (List.mem_of_getElem? ht)
          have zt : ¬ 9223372036854775807 < 1 + (tName t).size := by have := tName_small t; omega
          have HT : Hid ((tList c.tr)[k]? = some t) := ht
          have HTB : Hid (1 ≤ t ∧ t ≤ 8) := tb
          have HVS : Hid (vn ≤ 20) := hvs
          have hs1 : Hid (w.heap.size + 1 ≤ wr.heap.size + 1) := by have := HG.out.size; unfold Hid; omega
          clear ht tb hne hg1 hg2 hvs h8 hk
          go_wp2_with (first | (go_at_call 83; refine (tname_any t _ HR.out.laid.tr).mono ?_; rintro e w9 ⟨rfl, h9⟩; obtain rfl : wr = w9 := h9.symm) | (at_builtin; refine wpList_append_own_at _ rfl (.tmp 45) (.tmp 49) 57 rfl (w.heap.size + 1) 9 i0 (.string ByteArray.empty) 1 16 Tryz.underlying57 hi hz0 hz1 hz2 rfl (by decide) _ vn _ rfl (by rw [HV.out]; exact World.ownsRow.alloc (own_pcs (HV.out ▸ HR.out.own)) _) ⟨wr.heap.size, 0, none⟩ 1 1 [.string ((⟨#[43]⟩ : ByteArray) ++ tName t)] rfl rfl (cell_one_new _ _ _) (fun x hx => by simp at hx; subst hx; rfl) (by have := HVS.out; unfold maxLen; omega) (by have := HVS.out; omega) (by rw [World.size_alloc]; exact hs1.out) ?_; intro v8 w8 o8 g8 _ l8) | fail)
          have NX : Hid (TellR w.heap.size (some ⟨g, 0, none⟩) (tList c.tr) (([c.nm.data.toList, at1 suitW c.su, at1 kindW c.kd, Lib.itoa c.co]) ++ [tokW]) w8 W6.heap.size (k + 1) v8) := HR.out.next HT.out HTB.out HL.out.big (World.grownBy_alloc _ _ none) (HV.out ▸ o8) g8 l8
          have NG : Hid (w.grownBy w8 none) := grown_own (grown_push HG.out _) g8 (fun x hx => by have := HR.out.own.block x hx; omega)
          go_roundw
          case rel => exact ⟨k + 1, hlt, by rw [hw]; rfl, NX.out, NG.out⟩
          case measure => rw [hw]; exact meas_next hlt
end Go.Proofs.YtpceelbphpfciaaGreatDoor
