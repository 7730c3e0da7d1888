/-
  Zones: do the stamps differ?
-/
import Derived.Test.YtogpgldbbegniaaZmY
namespace Go.Proofs.Ytogpgldbbegniaa
open Go.RowKit

/-- No two things on the table have one stamp. -/
def StDif (ts : List Th) : Prop := ∀ n m, there ts n → there ts m → (thAt ts n).place = 4 → (thAt ts m).place = 4 → (thAt ts n).stamp = (thAt ts m).stamp → n = m
theorem sd_yes {ts : List Th} (ho : Owners ts) {l : List Int} (hp : l.Perm (tabN ts)) (hs : l.Pairwise fun a b => stOf ts a ≤ stOf ts b) (h : ∀ j : Nat, j + 1 < l.length → stOf ts (l.getD (j + 1) 0) ≠ stOf ts (l.getD j 0)) : StDif ts := by
  have hlt : ∀ i j : Nat, i < j → j < l.length → stOf ts (l.getD i 0) < stOf ts (l.getD j 0) := by
    intro i j hij hj
    have hle : ∀ a b : Nat, a < b → b < l.length → stOf ts (l.getD a 0) ≤ stOf ts (l.getD b 0) := by
      intro a b hab hb
      have := (List.pairwise_iff_getElem.1 hs) a b (by omega) hb hab
      rwa [getD_lt _ _ (by omega), getD_lt _ _ hb]
    obtain ⟨k, rfl⟩ : ∃ k, j = k + 1 := ⟨j - 1, by omega⟩
    have h1 := h k hj
    have h2 := hle k (k + 1) (by omega) hj
    by_cases e : i = k
    · subst e; omega
    · have := hle i k (by omega) (by omega)
      omega
  intro n m hn hm pn pm e
  have mn : n ∈ l := hp.mem_iff.2 ((tabN_mem ho).2 ⟨hn, pn⟩)
  have mm : m ∈ l := hp.mem_iff.2 ((tabN_mem ho).2 ⟨hm, pm⟩)
  obtain ⟨i, hi, ei⟩ := List.getElem_of_mem mn
  obtain ⟨j, hj, ej⟩ := List.getElem_of_mem mm
  have e' : stOf ts (l.getD i 0) = stOf ts (l.getD j 0) := by rw [getD_lt _ _ hi, getD_lt _ _ hj, ei, ej]; exact e
  rcases Nat.lt_trichotomy i j with q | q | q
  · have := hlt i j q hj; omega
  · subst q; rw [← ei, ← ej]
  · have := hlt j i q hi; omega
theorem sd_no {ts : List Th} (ho : Owners ts) {l : List Int} (hp : l.Perm (tabN ts)) {j : Nat} (hj : j + 1 < l.length) (e : stOf ts (l.getD (j + 1) 0) = stOf ts (l.getD j 0)) : ¬ StDif ts := by
  intro h
  have m1 : l.getD (j + 1) 0 ∈ l := by rw [getD_lt _ _ hj]; exact List.getElem_mem _
  have m0 : l.getD j 0 ∈ l := by rw [getD_lt _ _ (by omega)]; exact List.getElem_mem _
  have t1 := (tabN_mem ho).1 (hp.mem_iff.1 m1)
  have t0 := (tabN_mem ho).1 (hp.mem_iff.1 m0)
  have q := h _ _ t1.1 t0.1 t1.2 t0.2 e
  rw [getD_lt _ _ hj, getD_lt _ _ (by omega)] at q
  have nd : l.Nodup := hp.nodup_iff.2 (tabN_nodup ts)
  exact (List.pairwise_iff_getElem.1 nd) j (j + 1) (by omega) hj (by omega) q.symm
def SdPost (w : World) (ts : List Th) (e : Ending) (w' : World) : Prop := ∃ r : Bool, e = .returned (.bool r) ∧ (r = true ↔ StDif ts) ∧ w.grownBy w' none
set_option maxRecDepth 100000 in
set_option maxHeartbeats 4000000 in
theorem stampsDiffer_any (b : Nat) (vt : Value) (ts : List Th) (w : World) (c0 : w.cell? ⟨b, 0, none⟩ = some vt) (T : ThsAt w vt ts) (hf : ts.length ≤ 2048) (ho : Owners ts) : Calls Try.prog 75 #[.pointer (some ⟨b, 0, none⟩)] w (SdPost w ts) := by
  have C1 := onTable_any b vt ts w c0 T hf
  have H2 : Hid (∀ w1 v, w.grownBy w1 none → OwnI w1 w.heap.size v (tabN ts) → Calls Try.prog 66 #[.pointer (some ⟨b, 0, none⟩), v] w1 (BsPost w v ts (tabN ts))) := fun w1 v g o => byStamp_any w w1 b vt v ts (tabN ts) c0 T hf g o (fun n hn => tabN_there hn) (by have := tabN_len ts; omega)
  have HT : Hid (ThsAt w vt ts) := T
  have HC : Hid (w.cell? ⟨b, 0, none⟩ = some vt) := c0
  have Ho : Hid (Owners ts) := ho
  have Hf : Hid (ts.length ≤ 2048) := hf
  clear c0 T hf ho
  go_enter Try.func75, Try.ntmps75
  go_wp2_with fail
  refine C1.mono ?_
  rintro e w1 ⟨v1, rfl, o1, g1⟩
  have C2 := H2.out w1 v1 g1 o1
  obtain ⟨p1, q1, rfl⟩ := o1.form
  clear o1 g1 C1 H2
  go_wp2_with fail
  refine C2.mono ?_
  rintro e w2 ⟨l, rfl, hp, hs, o2, g2⟩
  have hll : (tabN ts).length = l.length := hp.length_eq.symm
  rw [hll] at o2 ⊢
  have HP : Hid (l.Perm (tabN ts)) := hp
  have HS : Hid (l.Pairwise fun a b => stOf ts a ≤ stOf ts b) := hs
  have HO : Hid (OwnI w2 w.heap.size (.slice p1 l.length q1) l) := o2
  have HG : Hid (w.grownBy w2 none) := g2
  have HL : Hid (l.length ≤ 4096) := by show l.length ≤ 4096; rw [← hll]; have := tabN_len ts; have := Hf.out; omega
  clear hp hs o2 g2 C2 hll
  go_wp2
  go_loopw [4] (fun i wr => ∃ j n : Nat, i = .int .i64 ((j : Int) + 1) ∧ wr = w2.drewN n ∧ j ≤ l.length ∧ ∀ k : Nat, k < j → k + 1 < l.length → stOf ts (l.getD (k + 1) 0) ≠ stOf ts (l.getD k 0)) (fun i _ => l.length + 1 - (intOf i).toNat)
  case atStart => exact ⟨0, 0, rfl, rfl, Nat.zero_le _, fun k hk => absurd hk (Nat.not_lt_zero _)⟩
  case round =>
    obtain ⟨j, n, rfl, rfl, hj, hall⟩ := hrel
    have HA : Hid (∀ k : Nat, k < j → k + 1 < l.length → stOf ts (l.getD (k + 1) 0) ≠ stOf ts (l.getD k 0)) := hall
    clear hall
    by_cases hlt : j + 1 < l.length
    · have hlt1 : (j : Int) + 1 < (l.length : Int) := by omega
      have hlt0 : (j : Int) < (l.length : Int) := by omega
      have hw0 : wrap64 (j : Int) = (j : Int) := by have := HL.out; unfold wrap64; omega
      have hw2 : wrap64 ((j : Int) + 1 + 1) = (j : Int) + 1 + 1 := by have := HL.out; unfold wrap64; omega
      obtain ⟨_, _, ev, _, hc⟩ := HO.out.l.ints
      cases ev
      obtain ⟨tg, to_, rfl, cc⟩ := hc (by omega)
      have y1 := cc (j + 1) hlt
      have y0 := cc j (by omega)
      clear cc hc
      have th1 : there ts (l.getD (j + 1) 0) := tabN_there (HP.out.mem_iff.1 (by rw [getD_lt _ _ hlt]; exact List.getElem_mem _))
      have th0 : there ts (l.getD j 0) := tabN_there (HP.out.mem_iff.1 (by rw [getD_lt _ _ (by omega)]; exact List.getElem_mem _))
      obtain ⟨g, off, cap, ev1, R1⟩ := ths_there (HT.out.keep HG.out) th1
      obtain ⟨g', off', cap', ev0, R0⟩ := ths_there (HT.out.keep HG.out) th0
      subst ev1
      cases ev0
      have x0 : w2.cell? ⟨b, 0, none⟩ = some (.slice (some ⟨g, off, none⟩) ts.length cap) := HG.out.cell HC.out (by simp)
      obtain ⟨n1, e1⟩ : ∃ n1, n1 = l.getD (j + 1) 0 := ⟨_, rfl⟩
      obtain ⟨n0, e0⟩ : ∃ n0, n0 = l.getD j 0 := ⟨_, rfl⟩
      rw [← e1] at y1 th1 R1
      rw [← e0] at y0 th0 R0
      have HE1 : Hid (n1 = l.getD (j + 1) 0) := e1
      have HE0 : Hid (n0 = l.getD j 0) := e0
      clear e1 e0
      obtain ⟨a, rfl⟩ : ∃ a : Nat, n1 = (a : Int) + 1 := ⟨(n1 - 1).toNat, by unfold there at th1; omega⟩
      obtain ⟨c, rfl⟩ : ∃ c : Nat, n0 = (c : Int) + 1 := ⟨(n0 - 1).toNat, by unfold there at th0; omega⟩
      have ha : (a : Int) < ts.length := by unfold there at th1; omega
      have hc : (c : Int) < ts.length := by unfold there at th0; omega
      have ha' : a < ts.length := by omega
      have hc' : c < ts.length := by omega
      have hwa : wrap64 (a : Int) = (a : Int) := by have := Hf.out; unfold wrap64; omega
      have hwc : wrap64 (c : Int) = (c : Int) := by have := Hf.out; unfold wrap64; omega
      rw [show ((a : Int) + 1 - 1).toNat = a from by omega] at R1
      rw [show ((c : Int) + 1 - 1).toNat = c from by omega] at R0
      obtain ⟨_, _, _, s1, _⟩ := range_cells R1
      obtain ⟨_, _, _, s0, _⟩ := range_cells R0
      obtain ⟨u, hu⟩ : ∃ u, u = (thAt ts ((a : Int) + 1)).stamp := ⟨_, rfl⟩
      obtain ⟨v, hv⟩ : ∃ v, v = (thAt ts ((c : Int) + 1)).stamp := ⟨_, rfl⟩
      rw [← hu] at s1
      rw [← hv] at s0
      have HU : Hid (u = stOf ts (l.getD (j + 1) 0)) := by show u = _; rw [← HE1.out]; exact hu
      have HV : Hid (v = stOf ts (l.getD j 0)) := by show v = _; rw [← HE0.out]; exact hv
      clear hu hv R1 R0 th1 th0 HE1 HE0 HO HT HC
      by_cases he : u = v
      · have hq : (u == v) = true := by simpa using he
        have HF : Hid (∀ w3, w2.grownBy w3 none → SdPost w ts (.returned (.bool false)) w3) := fun w3 g3 => ⟨false, rfl, ⟨fun q => (by cases q), fun q => absurd q (sd_no Ho.out HP.out hlt (by rw [← HU.out, ← HV.out]; exact he))⟩, grown_trans HG.out g3⟩
        clear he
        go_wp2
        go_quiet (fail)
        go_wp2
        go_ret
        exact HF.out _ (by first | exact grown_drewN _ _ _ | exact grown_trans (grown_drewN _ _ _) (grown_drewN _ _ _))
      · have hq : (u == v) = false := by simpa using he
        have HN : Hid (∀ k : Nat, k < j + 1 → k + 1 < l.length → stOf ts (l.getD (k + 1) 0) ≠ stOf ts (l.getD k 0)) := fun k hk hl => by
          by_cases ek : k = j
          · subst ek; rw [← HU.out, ← HV.out]; exact he
          · exact HA.out k (by omega) hl
        have HI : Hid (Value.int .i64 ((j : Int) + 1 + 1) = .int .i64 (((j + 1 : Nat) : Int) + 1)) := by show Value.int _ _ = _; rw [Int.natCast_add]; rfl
        have HMe : Hid (l.length + 1 - (intOf (.int .i64 ((j : Int) + 1 + 1))).toNat < l.length + 1 - (intOf (.int .i64 ((j : Int) + 1))).toNat) := by show _ < _; simp only [intOf]; omega
        have HJ : Hid (j + 1 ≤ l.length) := by show _ ≤ _; omega
        clear he
        go_wp2
        go_quiet (fail)
        go_wp2
        rw [hw2]
        exact ⟨⟨j + 1, n + nq, HI.out, rfl, HJ.out, HN.out⟩, HMe.out⟩
    · have hlt1 : ¬ (j : Int) + 1 < (l.length : Int) := by omega
      have HF : Hid (SdPost w ts (.returned (.bool true)) (w2.drewN n)) := ⟨true, rfl, ⟨fun _ => sd_yes Ho.out HP.out HS.out (fun k hk => HA.out k (by omega) hk), fun _ => rfl⟩, grown_trans HG.out (grown_drewN _ _ _)⟩
      go_wp2
      go_ret
      exact HF.out
end Go.Proofs.Ytogpgldbbegniaa
