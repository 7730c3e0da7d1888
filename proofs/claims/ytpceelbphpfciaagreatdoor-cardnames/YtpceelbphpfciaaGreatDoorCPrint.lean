/-
  card.Print of every card: Check's error, or its text.
-/
import Derived.Test.YtpceelbphpfciaaGreatDoorTell
namespace Go.Proofs.YtpceelbphpfciaaGreatDoor
open Go.RowKit

def cprB (c : Cd) : ByteArray := if cchk c = 0 then ⟨(cprt c).toArray⟩ else ⟨#[]⟩
theorem with_hd (c : Cd) : c.hd.with c.ps = c := rfl
theorem two_new_cells (w : World) (a b : ByteArray) : ∀ j u, [Value.string a, .string b][j]? = some u → (w.alloc (.cells #[.string a, .string b] 9)).cell? ((⟨w.heap.size, 0, none⟩ : Addr).add j) = some u := fun j u hu => by
  rw [add_plain, Nat.zero_add, block_cell (alloc_at w _ _)]
  simpa using hu
theorem parts_snoc {ps : List Pt} {k : Nat} {p : Pt} (h : ps[k]? = some p) : partsW (ps.take (k + 1)) = partsW (ps.take k) ++ [[124], prt p] := by
  rw [List.take_add_one, h]
  simp [partsW]
theorem partsW_len : ∀ ps : List Pt, (partsW ps).length = 2 * ps.length
  | [] => rfl
  | p :: r => by
    have := partsW_len r
    simp only [partsW, List.flatMap_cons, List.length_append, List.length_cons, List.length_nil] at this ⊢
    omega
theorem heads_len (c : Cd) : (cheads c).length ≤ 14 := by
  have h8 : (tList c.tr).length ≤ 8 := upto_len _ 8
  have a : (forceW c).length ≤ 1 := by unfold forceW; split <;> simp
  have b : (tokenW c).length ≤ 1 := by unfold tokenW; split <;> simp
  simp only [cheads, traitsW, List.length_append, List.length_cons, List.length_nil, List.length_map]
  omega
theorem pcs_two (l : List (List UInt8)) (a b : List UInt8) : pcs (l ++ [a, b]) = pcs l ++ [Value.string ⟨a.toArray⟩, .string ⟨b.toArray⟩] := by simp [pcs]
theorem own_two {w : World} {base : Nat} {v : Value} {l : List (List UInt8)} {a b : List UInt8} {n : Nat} (h : w.ownsRow base 9 1 v (n + 2) (pcs l ++ [Value.string ⟨a.toArray⟩, .string ⟨b.toArray⟩])) (hn : n = l.length) : Own w base 9 v (pcs (l ++ [a, b])) := by
  unfold Own
  rw [pcs_two]
  have e : (pcs l ++ [Value.string ⟨a.toArray⟩, .string ⟨b.toArray⟩]).length = n + 2 := by rw [List.length_append, length_pcs, hn]; rfl
  rw [e]
  exact h
/-- Join of words that the call has laid. -/
theorem join_own (l : List (List UInt8)) (h : l ≠ []) (hl : l.length ≤ 1000) (hj : (Lib.join l [32]).length ≤ 1000) (v : Value) (base : Nat) (w : World) (O : Own w base 9 v (pcs l)) : Calls Tryz.prog 44 #[v, .string ⟨#[32]⟩] w fun e w' => e = .returned (.string ⟨(Lib.join l [32]).toArray⟩) ∧ w.grownBy w' none := by
  rcases O.at with ⟨_, e⟩ | ⟨g, cap, rfl, _, hg, hcap, hc⟩
  · exact absurd (by simpa [pcs] using e) h
  · have em : (l.map fun t => (⟨t.toArray⟩ : ByteArray)).map (·.data.toList) = l := by simp [Function.comp_def]
    have hx : (l.map fun t => (⟨t.toArray⟩ : ByteArray)).length = l.length := List.length_map _
    have k := join_any g cap (l.map fun t => (⟨t.toArray⟩ : ByteArray)) w (fun j x hx => (hc j _ (by
      rw [show pcs l = (l.map fun t => (⟨t.toArray⟩ : ByteArray)).map Value.string from by simp [pcs, Function.comp_def], List.getElem?_map, hx]
      rfl)).1) hg (by rw [hx]; omega) (by rw [hx, ← length_pcs l]; exact hcap) (by rw [em]; omega)
    rw [em, hx] at k
    rw [length_pcs]
    exact k
set_option maxRecDepth 100000 in
set_option maxHeartbeats 4000000 in
theorem cprint_bad (c : Cd) (v : Value) (w : World) (L : LaidP w) (hp : PsAt w v c.ps) (hm : Small c.ps.length) (hz : ¬ cchk c = 0) : Calls Tryz.prog 13 #[cv c.hd v] w fun e w' => e = .returned (.tuple #[.string ⟨#[]⟩, .int .i64 (cchk c)]) ∧ w.grownBy w' none := by
  obtain ⟨i0, hi, hz0, hz1, hz2⟩ := info_parts Tryz.info9
  have HL : Hid (LaidP w) := L
  have HP : Hid (PsAt w v c.ps) := hp
  obtain ⟨a, cap, rfl⟩ := hp.form
  clear L hp
  unfold cv
  go_enter Tryz.func13, Tryz.ntmps13
  go_wp2_with fail
  refine (ccheck_any c.hd _ c.ps _ (HP.out.keep (World.grownBy_alloc _ _ none)) hm).mono ?_
  rintro e w1 ⟨rfl, g1⟩
  rw [with_hd]
  have C1 : CAt w1 w.heap.size c.hd (.slice a c.ps.length cap) := CAt.keep (alloc_at w (ccs c.hd (.slice a c.ps.length cap)) 40) g1
  have G1 : Hid (w.grownBy w1 none) := grown_trans (World.grownBy_alloc _ _ none) g1
  clear g1
  obtain ⟨c0, c1, c2, c3, c4, c5, c6, c7, c8⟩ := C1.cells
  have hz' : (cchk c == 0) = false := beqi_no hz
  clear hz C1
  go_wp2
  go_ret2
  exact ⟨rfl, G1.out⟩
set_option maxRecDepth 100000 in
set_option maxHeartbeats 4000000 in
theorem cprint_good (c : Cd) (v : Value) (w : World) (L : LaidP w) (hp : PsAt w v c.ps) (hm : Small c.ps.length) (hz : cchk c = 0) : Calls Tryz.prog 13 #[cv c.hd v] w fun e w' => e = .returned (.tuple #[.string ⟨(cprt c).toArray⟩, .int .i64 0]) ∧ w.grownBy w' none := by
  obtain ⟨i0, hi, hz0, hz1, hz2⟩ := info_parts Tryz.info9
  have HL : Hid (LaidP w) := L
  have HP : Hid (PsAt w v c.ps) := hp
  obtain ⟨a, cap, rfl⟩ := hp.form
  clear L hp
  unfold cv
  go_enter Tryz.func13, Tryz.ntmps13
  go_wp2_with fail
  refine (ccheck_any c.hd _ c.ps _ (HP.out.keep (World.grownBy_alloc _ _ none)) hm).mono ?_
  rintro e w1 ⟨rfl, g1⟩
  rw [with_hd]
  have C1 : CAt w1 w.heap.size c.hd (.slice a c.ps.length cap) := CAt.keep (alloc_at w (ccs c.hd (.slice a c.ps.length cap)) 40) g1
  have G1 : Hid (w.grownBy w1 none) := grown_trans (World.grownBy_alloc _ _ none) g1
  clear g1
  obtain ⟨c0, c1, c2, c3, c4, c5, c6, c7, c8⟩ := C1.cells
  have HM : Hid (CMay c) := cmay_of hz
  rw [hz]
  have HCC : Hid (CAt w1 w.heap.size c.hd (.slice a c.ps.length cap)) := C1
  clear hz C1
  go_wp2_with fail
  refine (tellHead_any c _ HM.out _ (HL.out.keep G1.out)).mono ?_
  rintro e w2 ⟨u, rfl, o2, g2⟩
  have O2 : Hid (Own w2 w.heap.size 9 u (pcs (cheads c))) := own_big o2 G1.out.size
  have G2 : Hid (w.grownBy w2 none) := grown_trans G1.out g2
  have d8 := ((HCC.out.keep g2).cells).2.2.2.2.2.2.2.2
  clear c0 c1 c2 c3 c4 c5 c6 c7 c8 o2 g2 HCC G1
  go_wp2_with fail
  by_cases h0 : c.ps.length = 0
  · have eW : cheads c = cwords c := by unfold cwords; rw [List.eq_nil_of_length_eq_zero h0]; simp [partsW]
    rw [eW] at O2
    rw [h0]
    have hh : (cwords c).length ≤ 14 := by rw [← eW]; exact heads_len c
    have HH : Hid ((cwords c).length ≤ 14) := hh
    clear HP eW hh
    go_loopw [5, 20] (fun v5 i wr => i = .int .i64 0 ∧ v5 = u ∧ wr = w2) (fun _ _ _ => 0)
    case atStart => exact ⟨rfl, rfl, rfl⟩
    case round =>
      obtain ⟨rfl, rfl, rfl⟩ := hrel
      go_wp2_with fail
      refine (join_own (cwords c) (by simp [cwords, cheads]) (by have := HH.out; omega) (by have := cprt_len HM.out; unfold cprt at this; omega) _ _ _ O2.out).mono ?_
      rintro e w9 ⟨rfl, g9⟩
      go_wp2
      go_ret2
      exact ⟨rfl, grown_trans G2.out g9⟩
  · obtain ⟨g, o, cap2, ev, PA⟩ := HP.out.part (by omega)
    injection ev with e1 _ e3
    subst e1
    subst e3
    have HA : Hid (∀ j p, c.ps[j]? = some p → P8 w g (o + j * 8) p) := PA
    clear PA h0
    go_loopw [5, 20] (fun v5 i wr => ∃ k : Nat, k ≤ c.ps.length ∧ i = .int .i64 k ∧ Own wr w.heap.size 9 v5 (pcs (cheads c ++ partsW (c.ps.take k))) ∧ w.grownBy wr none) (fun _ i _ => c.ps.length - (intOf i).toNat)
    case atStart => exact ⟨0, Nat.zero_le _, rfl, by simpa [partsW] using O2.out, G2.out⟩
    case round =>
      obtain ⟨k, hk, rfl, O, G⟩ := hrel
      obtain ⟨q, cp, ev⟩ := O.form
      rw [length_pcs] at ev
      subst ev
      obtain ⟨n, hn⟩ : ∃ n, n = (cheads c ++ partsW (c.ps.take k)).length := ⟨_, rfl⟩
      rw [← hn] at O ⊢
      have hn6 : n ≤ 22 := by
        have h4 := HM.out.len
        have := heads_len c
        rw [hn, List.length_append, partsW_len, List.length_take]
        omega
      have HN : Hid (n = (cheads c ++ partsW (c.ps.take k)).length) := hn
      have HO : Hid (Own wr w.heap.size 9 (.slice q n cp) (pcs (cheads c ++ partsW (c.ps.take k)))) := O
      have HG : Hid (w.grownBy wr none) := G
      clear O G hn O2 G2 d8
      rcases (show k = c.ps.length ∨ k < c.ps.length from by omega) with rfl | hlt
      · have eW : cheads c ++ partsW (c.ps.take c.ps.length) = cwords c := by rw [List.take_length]; rfl
        rw [eW] at HO HN
        have HJ : Hid (n = (cwords c).length) := HN
        have h22 : Hid (n ≤ 22) := hn6
        clear HN hn6 hk eW
        go_wp2_with fail
        refine (join_own (cwords c) (by simp [cwords, cheads]) (by rw [← HJ.out]; have := h22.out; omega) (by have := cprt_len HM.out; unfold cprt at this; omega) _ _ _ HO.out).mono ?_
        rintro e w9 ⟨rfl, g9⟩
        go_wp2
        go_ret2
        exact ⟨rfl, grown_trans HG.out g9⟩
      · have hlt' : (k : Int) < (c.ps.length : Int) := by omega
        have hk0 : (0 : Int) ≤ (k : Int) := by omega
        have hw := hm.wrap hlt
        obtain ⟨p, hp⟩ : ∃ p, c.ps[k]? = some p := ⟨_, List.getElem?_eq_getElem hlt⟩
        obtain ⟨c0, c1, c2, c3, c4, c5, c6, c7⟩ := (HA.out k p hp).keep HG.out
        have hpc : chk p = 0 := HM.out.ps p (List.mem_of_getElem? hp)
        have eB : prB p = ⟨(prt p).toArray⟩ := by unfold prB; rw [if_pos hpc]
        have HQ : Hid (partsW (c.ps.take (k + 1)) = partsW (c.ps.take k) ++ [[124], prt p]) := parts_snoc hp
        have hs1 : Hid (w.heap.size ≤ wr.heap.size) := HG.out.size
        have HN6 : Hid (n ≤ 22) := hn6
        clear hp hn6 hk
        obtain ⟨p0, p1, p2, p3, p4, p5, p6, p7⟩ := p
        simp only at c0 c1 c2 c3 c4 c5 c6 c7
        go_wp2_with (first | (go_at_call 30; refine (printP_any ⟨p0, p1, p2, p3, p4, p5, p6, p7⟩ _ (HL.out.keep (grown_push HG.out _))).mono ?_; rintro e w3 ⟨rfl, g3⟩; rw [eB, hpc]; have G3 : Hid (wr.grownBy w3 none) := grown_trans (World.grownBy_alloc _ _ none) g3) | (at_builtin; refine wpList_append_own_at _ rfl (.tmp 29) (.tmp 31) 57 rfl w.heap.size 9 i0 (.string ByteArray.empty) 1 16 Tryz.underlying57 hi hz0 hz1 hz2 rfl (by decide) _ n _ rfl (by rw [HN.out]; exact World.ownsRow.alloc (own_pcs (HN.out ▸ (HO.out.keep G3.out (by simp)))) _) ⟨w3.heap.size, 0, none⟩ 2 2 [.string ⟨#[124]⟩, .string ⟨(prt ⟨p0, p1, p2, p3, p4, p5, p6, p7⟩).toArray⟩] rfl rfl (two_new_cells _ _ _) (fun x hx => by simp at hx; rcases hx with rfl | rfl <;> rfl) (by have := HN6.out; unfold maxLen; omega) (by have := HN6.out; omega) (Nat.le_trans hs1.out (Nat.le_trans G3.out.size (by rw [World.size_alloc]; exact Nat.le_succ _))) ?_; intro v8 w8 o8 g8 _ _) | fail)
        have NO : Hid (Own w8 w.heap.size 9 v8 (pcs (cheads c ++ partsW (c.ps.take (k + 1))))) := by
          unfold Hid
          rw [HQ.out, ← List.append_assoc]
          exact own_two (HN.out ▸ o8) rfl
        have NG : Hid (w.grownBy w8 none) := grown_own (grown_push (grown_trans HG.out G3.out) _) g8 (fun x hx => HO.out.block x hx)
        go_roundw
        case rel => exact ⟨k + 1, hlt, by rw [hw]; rfl, NO.out, NG.out⟩
        case measure => rw [hw]; exact meas_next hlt
theorem cprintP_any (c : Cd) (v : Value) (w : World) (L : LaidP w) (hp : PsAt w v c.ps) (hm : Small c.ps.length) : Calls Tryz.prog 13 #[cv c.hd v] w fun e w' => e = .returned (.tuple #[.string (cprB c), .int .i64 (cchk c)]) ∧ w.grownBy w' none := by
  unfold cprB
  by_cases hz : cchk c = 0
  · rw [if_pos hz]
    have := cprint_good c v w L hp hm hz
    rwa [← hz] at this
  · rw [if_neg hz]
    exact cprint_bad c v w L hp hm hz
theorem cprint_any (c : Cd) (v : Value) (w : World) (L : LaidAt w) (hp : PsAt w v c.ps) (hm : Small c.ps.length) : Calls Tryz.prog 13 #[cv c.hd v] w fun e w' => e = .returned (.tuple #[.string (cprB c), .int .i64 (cchk c)]) ∧ w.grownBy w' none := cprintP_any c v w L.p hp hm
end Go.Proofs.YtpceelbphpfciaaGreatDoor
