/-
  BookScript, walked: two pairs of books, any acts.
-/
import Derived.Test.YtiikbhejnblhlaaGreatMG
namespace Go.Proofs.YtiikbhejnblhlaaGreat
open Go.RowKit

/-- An act with its card's parts, as it may be handed in. -/
structure DnOk (ok : Nat → Prop) (w : World) (d : Dn × List Pt) : Prop where
  ps : PsOk ok w d.1.v d.2
  fit : Fits d.2.length
  wf : (d.1.h.with d.2).wf
  t : 0 ≤ d.1.t ∧ d.1.t ≤ 255
  m : 0 ≤ d.1.m.mi ∧ d.1.m.mi ≤ 255
theorem act_any (ok : Nat → Prop) (b r : Nat) (v : Value) (es fs : List Ent) (p : Pl) (b' r' : Nat) (v' : Value) (es' fs' : List Ent) (p' : Pl) (d : Dn × List Pt) (w : World) (P : Pr ok w b r v es fs p) (P' : Pr ok w b' r' v' es' fs' p') (hb : ¬ ok b) (hr : ¬ ok r) (hne : ¬ b = r) (hnew : ∀ k, w.heap.size ≤ k → ok k) (D : DnOk ok w d) : Calls Tryz.prog 6 #[.agg #[.pointer (some ⟨b, 0, none⟩), .pointer (some ⟨r, 0, none⟩)], .agg (dcs d.1), .agg #[.pointer (some ⟨b', 0, none⟩), .pointer (some ⟨r', 0, none⟩)]] w fun e w' => e = .returned (.bool true) ∧ ActPost ok w w' b r := by
  have hf : ∃ x y z, d.1.v = .slice x y z := by obtain ⟨x, y, h⟩ := D.ps.1.form; exact ⟨x, _, y, h⟩
  by_cases k0 : d.1.kd = 0
  · exact act0 ok b r v es fs p b' r' d.1 w P hb hr hne hf k0 d.2 hnew D.ps D.fit D.wf
  by_cases k1 : d.1.kd = 1
  · exact act1 ok b r v es fs p b' r' d.1 w P hb hr hne hf k1 D.t
  by_cases k2 : d.1.kd = 2
  · exact act2 ok b r v es fs p b' r' d.1 w P hb hr hne hf k2 D.m
  by_cases k3 : d.1.kd = 3
  · exact act3 ok b r v es fs p b' r' d.1 w P hb hr hne hf k3
  by_cases k4 : d.1.kd = 4
  · exact act4 ok b r v es fs p b' r' d.1 w P hb hr hne hf k4
  by_cases k5 : d.1.kd = 5
  · exact act5 ok b r v es fs p b' r' d.1 w P hb hr hne hf k5
  by_cases k6 : d.1.kd = 6
  · exact act6 ok b r v es fs p b' r' d.1 w P hb hr hne hf k6
  by_cases k7 : d.1.kd = 7
  · exact act7 ok b r v es fs p b' r' d.1 w P hb hr hne hf k7
  by_cases k8 : d.1.kd = 8
  · exact act8 ok b r v es fs p b' r' d.1 w P hb hr hne hf k8 D.t D.m
  by_cases k9 : d.1.kd = 9
  · exact act9 ok b r v es fs p b' r' d.1 w P hb hr hne hf k9 v' es' fs' p' P'
  · exact actn ok b r v es fs p b' r' d.1 w P hb hr hne hf k0 k1 k2 k3 k4 k5 k6 k7 k8 k9
/-- The acts that were handed in. -/
structure ActsIn (w : World) (v : Value) (ds : List (Dn × List Pt)) : Prop where
  lies : ∃ a k, v = .slice a ds.length k ∧ (0 < ds.length → ∃ g o, a = some ⟨g, o, none⟩ ∧ ∀ (i : Nat) d, ds[i]? = some d → w.rangeAt g (o + i * 18) (dcs d.1).toList)
  fine : ∀ d ∈ ds, DnOk (fun k => k < w.heap.size) w d
def PrE (ok : Nat → Prop) (w : World) (b r : Nat) : Prop := ∃ v es fs p, Pr ok w b r v es fs p
theorem PrE.keep {ok : Nat → Prop} {w w' : World} {b r : Nat} (h : PrE ok w b r) (g : w.grownBy w' none) : PrE ok w' b r := by
  obtain ⟨v, es, fs, p, P⟩ := h
  exact ⟨v, es, fs, p, P.keep g⟩
theorem DnOk.keep {ok : Nat → Prop} {w w' : World} {d : Dn × List Pt} (h : DnOk (fun k => k < w.heap.size) w d) (g : w.grownBy w' none) (k : ∀ i, i < w.heap.size → ok i) : DnOk ok w' d := ⟨(h.ps.keep g).mono k, h.fit, h.wf, h.t, h.m⟩
/-- Four books. -/
structure Four (ok : Nat → Prop) (w wr : World) (q b0 r0 b1 r1 : Nat) : Prop where
  one : PrE ok wr b0 r0
  two : PrE ok wr b1 r1
  arr : wr.heap[q]? = some (.cells #[.pointer (some ⟨b0, 0, none⟩), .pointer (some ⟨r0, 0, none⟩), .pointer (some ⟨b1, 0, none⟩), .pointer (some ⟨r1, 0, none⟩)] 29 (0, 0))
  gr : w.grownBy wr none
theorem plNew_mkd : MkD plNew := ⟨rfl, fun m hm => by simp [plNew] at hm; exact Or.inl hm⟩
theorem pr_new {ok : Nat → Prop} {w : World} {b r : Nat} (B : Book ok w b [] plNew) (R : RJ w r (.slice none 0 0) plNew) : Pr ok w b r (.slice none 0 0) [] [] plNew := ⟨B, R, Or.inl ⟨rfl, rfl⟩, (fun k hk => by cases hk), (fun e he => by simp at he), rfl, plNew_mkd, rfl⟩
theorem and_one (a : Int) : bits .and .i64 a 1 = 0 ∨ bits .and .i64 a 1 = 1 := by
  have e : bits .and .i64 a 1 = IntKind.i64.wrap (((BitVec.ofInt 64 a &&& BitVec.ofInt 64 1).toNat : Nat) : Int) := rfl
  have h : (BitVec.ofInt 64 a &&& BitVec.ofInt 64 1).toNat = 0 ∨ (BitVec.ofInt 64 a &&& BitVec.ofInt 64 1).toNat = 1 := by
    rw [BitVec.toNat_and, show (BitVec.ofInt 64 1).toNat = 1 from by decide, Nat.and_one_is_mod]
    omega
  rcases h with h | h
  · exact Or.inl (by rw [e, h]; decide)
  · exact Or.inr (by rw [e, h]; decide)
theorem both_own {w x w' : World} {b r : Nat} (g : w.grownBy x none) (h : Both2 x w' b r) (hb : w.heap.size ≤ b) (hr : w.heap.size ≤ r) : w.grownBy w' none := by
  obtain ⟨y, h1, h2⟩ := h
  exact grown_own (grown_own g h1 (fun j e => by cases e; exact hb)) h2 (fun j e => by cases e; exact hr)
theorem both_block {x w' : World} {b r q : Nat} {o : Obj} (h : Both2 x w' b r) (k : x.heap[q]? = some o) (h1 : ¬ q = b) (h2 : ¬ q = r) : w'.heap[q]? = some o := by
  obtain ⟨y, g1, g2⟩ := h
  exact grown_keep g2 (grown_keep g1 k (fun e => by injection e with e; exact h1 e)) (fun e => by injection e with e; exact h2 e)
set_option maxRecDepth 100000 in
set_option maxHeartbeats 8000000 in
theorem script_any (v : Value) (ds : List (Dn × List Pt)) (w : World) (A : ActsIn w v ds) : Calls Tryz.prog 3 #[v] w fun e w' => e = .returned (.bool true) ∧ w.grownBy w' none := by
  obtain ⟨oa, oc, rfl, HR0⟩ := A.lies
  have HR : Hid (0 < ds.length → ∃ g o, oa = some ⟨g, o, none⟩ ∧ ∀ (i : Nat) d, ds[i]? = some d → w.rangeAt g (o + i * 18) (dcs d.1).toList) := HR0
  have HD : Hid (∀ d ∈ ds, DnOk (fun k => k < w.heap.size) w d) := A.fine
  clear A HR0
  by_cases h400 : 400 < ds.length
  · have h4 : (400 : Int) < (ds.length : Int) := by omega
    clear h400
    go_enter Tryz.func3, Tryz.ntmps3
    go_wp2
    go_ret
    exact ⟨rfl, grown_refl _ _⟩
  · have h4 : ¬ (400 : Int) < (ds.length : Int) := by omega
    have hsm : Small ds.length := by unfold Small; omega
    obtain ⟨s, hs⟩ : ∃ s, s = w.heap.size := ⟨_, rfl⟩
    obtain ⟨ok, hok⟩ : ∃ ok : Nat → Prop, ok = fun k => ¬ (k = s ∨ k = s + 1 ∨ k = s + 2 ∨ k = s + 3) := ⟨_, rfl⟩
    have n0 : ¬ ok s := by rw [hok]; simp
    have n1 : ¬ ok (s + 1) := by rw [hok]; simp
    have n2 : ¬ ok (s + 2) := by rw [hok]; simp
    have n3 : ¬ ok (s + 3) := by rw [hok]; simp
    have HN : Hid (¬ ok s ∧ ¬ ok (s + 1) ∧ ¬ ok (s + 2) ∧ ¬ ok (s + 3)) := ⟨n0, n1, n2, n3⟩
    have Hnew : Hid (∀ k, s + 4 ≤ k → ok k) := fun k hk => by rw [hok]; show ¬ (k = s ∨ k = s + 1 ∨ k = s + 2 ∨ k = s + 3); omega
    have Hold : Hid (∀ k, k < w.heap.size → ok k) := fun k hk => by rw [hok]; show ¬ (k = s ∨ k = s + 1 ∨ k = s + 2 ∨ k = s + 3); omega
    have Hs : Hid (s = w.heap.size) := hs
    clear h400 n0 n1 n2 n3 hok
    go_enter Tryz.func3, Tryz.ntmps3
    go_wp2_with fail
    refine (bnew ok w).mono ?_
    rintro e V1 ⟨rfl, B1, g1, s1⟩
    rw [← hs] at B1 s1 ⊢
    clear hs
    have HB1 : Hid (Book ok V1 s [] plNew) := B1
    have HG1 : Hid (w.grownBy V1 none) := g1
    have HS1 : Hid (V1.heap.size = s + 1) := s1
    clear B1 g1 s1
    go_wp2_with fail
    refine (rnew_any V1).mono ?_
    rintro e V2 ⟨rfl, R2, g2, s2⟩
    rw [HS1.out] at R2 s2 ⊢
    have HP2 : Hid (PrE ok V2 s (s + 1)) := ⟨_, _, _, _, pr_new (HB1.out.keep g2) R2⟩
    have HG2 : Hid (w.grownBy V2 none) := grown_trans HG1.out g2
    have HS2 : Hid (V2.heap.size = s + 2) := s2
    clear R2 g2 s2 HB1 HG1 HS1
    go_wp2_with fail
    refine (bnew ok V2).mono ?_
    rintro e V3 ⟨rfl, B3, g3, s3⟩
    rw [HS2.out] at B3 s3 ⊢
    have HB3 : Hid (Book ok V3 (s + 2) [] plNew) := B3
    have HP3 : Hid (PrE ok V3 s (s + 1)) := HP2.out.keep g3
    have HG3 : Hid (w.grownBy V3 none) := grown_trans HG2.out g3
    have HS3 : Hid (V3.heap.size = s + 3) := s3
    clear B3 g3 s3 HP2 HG2 HS2
    go_wp2_with fail
    refine (rnew_any V3).mono ?_
    rintro e V4 ⟨rfl, R4, g4, s4⟩
    rw [HS3.out] at R4 s4 ⊢
    obtain ⟨V5, hV5⟩ : ∃ V5, V5 = V4.alloc (.cells #[.pointer (some ⟨s, 0, none⟩), .pointer (some ⟨s + 1, 0, none⟩), .pointer (some ⟨s + 2, 0, none⟩), .pointer (some ⟨s + 3, 0, none⟩)] 29) := ⟨_, rfl⟩
    have g5 : V4.grownBy V5 none := by rw [hV5]; exact World.grownBy_alloc _ _ none
    have HF : Hid (Four ok w V5 (s + 4) s (s + 1) (s + 2) (s + 3)) := ⟨(HP3.out.keep g4).keep g5, ⟨_, _, _, _, (pr_new (HB3.out.keep g4) R4).keep g5⟩, by rw [hV5, show s + 4 = V4.heap.size by omega]; exact alloc_at _ _ _, grown_trans HG3.out (grown_trans g4 g5)⟩
    have HS4 : Hid (V4.heap.size = s + 4) := s4
    have x0 : V5.cell? ⟨s + 4, 0, none⟩ = some (.pointer (some ⟨s, 0, none⟩)) := block_cell HF.out.arr 0
    have x2 : V5.cell? ⟨s + 4, 2, none⟩ = some (.pointer (some ⟨s + 2, 0, none⟩)) := block_cell HF.out.arr 2
    have HV5 : Hid (V5 = _) := hV5
    clear R4 g4 s4 g5 hV5 HB3 HP3 HG3 HS3
    go_upto_region 4 with fail
    rw [← HV5.out, HS4.out]
    clear HV5 HS4
    go_wp2_with fail
    go_loopw [4, 5] (fun x4 _ wr => ∃ i : Nat, i ≤ ds.length ∧ x4 = .int .i64 (i : Int) ∧ Four ok w wr (s + 4) s (s + 1) (s + 2) (s + 3)) (fun x4 _ _ => ds.length - (intOf x4).toNat)
    case atStart => exact ⟨0, Nat.zero_le _, rfl, HF.out⟩
    case round =>
      clear HF x0 x2
      obtain ⟨i, hi, rfl, F⟩ := hrel
      obtain ⟨U, hU⟩ : ∃ U, U = wr := ⟨_, rfl⟩
      subst hU
      have HF : Hid (Four ok w U (s + 4) s (s + 1) (s + 2) (s + 3)) := F
      clear F
      rcases (show i < ds.length ∨ i = ds.length from by omega) with hil | hie
      · have i0 : (0 : Int) ≤ (i : Int) := by omega
        have i1 : (i : Int) < (ds.length : Int) := by omega
        obtain ⟨g, o, rfl, HRc⟩ := HR.out (by omega)
        obtain ⟨d, hd⟩ : ∃ d, ds[i]? = some d := ⟨_, List.getElem?_eq_getElem hil⟩
        have RW : U.rangeAt g (o + i * 18) (dcs d.1).toList := fun j u hu => HF.out.gr.cell (HRc i d hd j u hu) (by simp)
        have HRW : Hid (w.rangeAt g (o + i * 18) (dcs d.1).toList) := HRc i d hd
        have HDi : Hid (DnOk ok U d) := (HD.out d (List.mem_of_getElem? hd)).keep HF.out.gr Hold.out
        have c1 : U.cell? ⟨g, o + i * 18 + 1, none⟩ = some (.int .i64 d.1.onn) := RW 1 _ rfl
        clear RW HRc hd
        have x0 : U.cell? ⟨s + 4, 0, none⟩ = some (.pointer (some ⟨s, 0, none⟩)) := block_cell HF.out.arr 0
        have x1 : U.cell? ⟨s + 4, 1, none⟩ = some (.pointer (some ⟨s + 1, 0, none⟩)) := block_cell HF.out.arr 1
        have x2 : U.cell? ⟨s + 4, 2, none⟩ = some (.pointer (some ⟨s + 2, 0, none⟩)) := block_cell HF.out.arr 2
        have x3 : U.cell? ⟨s + 4, 3, none⟩ = some (.pointer (some ⟨s + 3, 0, none⟩)) := block_cell HF.out.arr 3
        have hw1 : IntKind.i64.wrap 1 = 1 := by decide
        have hw0 : IntKind.i64.wrap 0 = 0 := by decide
        rcases and_one d.1.onn with hk | hk
        · have HPa : Hid (PrE ok U.drew s (s + 1)) := HF.out.one.keep (grown_drew _)
          have HPb : Hid (PrE ok U.drew (s + 2) (s + 3)) := HF.out.two.keep (grown_drew _)
          obtain ⟨v1, e1, f1, p1, P1⟩ := HPa.out
          obtain ⟨v2, e2, f2, p2, P2⟩ := HPb.out
          have AC := act_any ok s (s + 1) v1 e1 f1 p1 (s + 2) (s + 3) v2 e2 f2 p2 d U.drew P1 P2 HN.out.1 HN.out.2.1 (by omega) (fun j hj => Hnew.out j (by have h9 := block_lt HF.out.arr; have h8 : U.drew.heap.size = U.heap.size := rfl; omega)) ⟨HDi.out.ps.keep (grown_drew _), HDi.out.fit, HDi.out.wf, HDi.out.t, HDi.out.m⟩
          have HP2 : Hid (Pr ok U.drew (s + 2) (s + 3) v2 e2 f2 p2) := P2
          clear P1 P2 HPa HPb HDi
          go_upto_region 10 with fail
          refine wp_region_held_drew (S := fun w' => w'.heap[s + 4]? = some (.cells #[.pointer (some ⟨s, 0, none⟩), .pointer (some ⟨s + 1, 0, none⟩), .pointer (some ⟨s + 2, 0, none⟩), .pointer (some ⟨s + 3, 0, none⟩)] 29 (0, 0)) ∧ w.grownBy w' none) (by kernel_rfl) ⟨grown_keep (grown_drew _) HF.out.arr (by simp), grown_trans HF.out.gr (grown_drew _)⟩ (fun hHeld => ?_)
          refine wpAnyH_take (i := 0) (v := ?_) rfl (by kernel_rfl) (by kernel_rfl) (by kernel_rfl) (fun _ _ _ h => h) (Or.inl ⟨by rfl, ?_⟩) (by assumption) ?_
          rotate_left 1
          · (intro w0 hSw; go_simp; try with_reducible rfl)
          simp only [List.getElem_toArray, List.getElem_cons_zero]
          go_frame
          refine wpAnyH_take (i := 1) (v := ?_) rfl (by kernel_rfl) (by kernel_rfl) (by kernel_rfl) (fun _ _ _ h => h) (Or.inl ⟨by rfl, ?_⟩) (by assumption) ?_
          rotate_left 1
          · (intro w0 hSw; go_simp; try with_reducible rfl)
          simp only [List.getElem_toArray, List.getElem_cons_zero, List.getElem_cons_succ]
          go_frame
          refine wpAnyH_take (i := 2) (v := ?_) rfl (by kernel_rfl) (by kernel_rfl) (by kernel_rfl) (fun _ _ _ h => h) (Or.inl ⟨by rfl, ?_⟩) (by assumption) ?_
          rotate_left 1
          · (intro w0 hSw; have ya := block_cell hSw.1 0; have yb := block_cell hSw.1 1; simp only [List.getElem?_toArray, List.getElem?_cons_zero, List.getElem?_cons_succ] at ya yb; go_simp; try with_reducible rfl)
          simp only [List.getElem_toArray, List.getElem_cons_zero, List.getElem_cons_succ]
          go_frame
          refine wpAnyH_take (i := 3) (v := ?_) rfl (by kernel_rfl) (by kernel_rfl) (by kernel_rfl) (fun _ _ _ h => h) (Or.inl ⟨by rfl, ?_⟩) (by assumption) ?_
          rotate_left 1
          · (intro w0 hSw; go_simp; try with_reducible rfl)
          simp only [List.getElem_toArray, List.getElem_cons_zero, List.getElem_cons_succ]
          go_frame
          refine wpAnyH_take (i := 4) (v := ?_) rfl (by kernel_rfl) (by kernel_rfl) (by kernel_rfl) (fun _ _ _ h => h) (Or.inl ⟨by rfl, ?_⟩) (by assumption) ?_
          rotate_left 1
          · (intro w0 hSw; go_simp; try with_reducible rfl)
          simp only [List.getElem_toArray, List.getElem_cons_zero, List.getElem_cons_succ]
          go_frame
          refine wpAnyH_take (i := 5) (v := ?_) rfl (by kernel_rfl) (by kernel_rfl) (by kernel_rfl) (fun _ _ _ h => h) (Or.inl ⟨by rfl, ?_⟩) (by assumption) ?_
          rotate_left 1
          · (intro w0 hSw; go_simp; try with_reducible rfl)
          simp only [List.getElem_toArray, List.getElem_cons_zero, List.getElem_cons_succ]
          go_frame
          refine wpAnyH_take (i := 6) (v := .agg (dcs d.1)) rfl (by kernel_rfl) (by kernel_rfl) (by kernel_rfl) (fun _ _ _ h => h) (yieldsIf_load_mid (by rfl) 41 (.tmp 43) rfl g (o + i * 18) rfl (dcs d.1).toList _ (fun w0 hSw => fun j u hu => World.grownBy.cell hSw.2 (HRW.out j u hu) (by simp)) Tryz.underlying41 rfl (by kernel_rfl)) (by assumption) ?_
          simp only [List.getElem_toArray, List.getElem_cons_zero, List.getElem_cons_succ]
          go_frame
          refine wpAnyH_take (i := 7) (v := ?_) rfl (by kernel_rfl) (by kernel_rfl) (by kernel_rfl) (fun _ _ _ h => h) (Or.inl ⟨by rfl, ?_⟩) (by assumption) ?_
          rotate_left 1
          · (intro w0 hSw; go_simp; try with_reducible rfl)
          simp only [List.getElem_toArray, List.getElem_cons_zero, List.getElem_cons_succ]
          go_frame
          refine wpAnyH_take (i := 8) (v := ?_) rfl (by kernel_rfl) (by kernel_rfl) (by kernel_rfl) (fun _ _ _ h => h) (Or.inl ⟨by rfl, ?_⟩) (by assumption) ?_
          rotate_left 1
          · (intro w0 hSw; go_simp; try with_reducible rfl)
          simp only [List.getElem_toArray, List.getElem_cons_zero, List.getElem_cons_succ]
          go_frame
          refine wpAnyH_take (i := 9) (v := ?_) rfl (by kernel_rfl) (by kernel_rfl) (by kernel_rfl) (fun _ _ _ h => h) (Or.inl ⟨by rfl, ?_⟩) (by assumption) ?_
          rotate_left 1
          · (intro w0 hSw; go_simp; try with_reducible rfl)
          simp only [List.getElem_toArray, List.getElem_cons_zero, List.getElem_cons_succ]
          go_frame
          refine wpAnyH_take (i := 10) (v := ?_) rfl (by kernel_rfl) (by kernel_rfl) (by kernel_rfl) (fun _ _ _ h => h) (Or.inl ⟨by rfl, ?_⟩) (by assumption) ?_
          rotate_left 1
          · (intro w0 hSw; have ya := block_cell hSw.1 2; have yb := block_cell hSw.1 3; simp only [List.getElem?_toArray, List.getElem?_cons_zero, List.getElem?_cons_succ] at ya yb; go_simp; try with_reducible rfl)
          simp only [List.getElem_toArray, List.getElem_cons_zero, List.getElem_cons_succ]
          go_frame
          refine wpAnyH_ready (rs := [11]) (by kernel_rfl) (by simp) ?_
          refine AllReadyH.cons rfl (fun K hK => ?_) AllReadyH.nil
          simp only [List.getElem_toArray, List.getElem_cons_zero, List.getElem_cons_succ]
          go_simp
          go_at_call 6
          refine (AC).mono ?_
          rintro e U2 ⟨rfl, A2⟩
          have HA2 : Hid (ActPost ok U.drew U2 s (s + 1)) := A2
          clear A2
          refine hK.out _ _ ⟨both_block HA2.out.2 (grown_keep (grown_drew _) HF.out.arr (by simp)) (by omega) (by omega), both_own (grown_trans HF.out.gr (grown_drew _)) HA2.out.2 (by have h9 := Hs.out; omega) (by have h9 := Hs.out; omega)⟩ (fun hHeld2 => ?_)
          clear hK K
          (try go_frame)
          refine wpAnyH_take (i := 12) (v := ?_) rfl (by kernel_rfl) (by kernel_rfl) (by kernel_rfl) (fun _ _ _ h => h) (Or.inl ⟨by rfl, ?_⟩) (by assumption) ?_
          rotate_left 1
          · (intro w0 hSw; go_simp; try with_reducible rfl)
          simp only [List.getElem_toArray, List.getElem_cons_zero, List.getElem_cons_succ]
          go_frame
          refine wpAnyH_done (by kernel_rfl) ?_ _
          have HF2 : Hid (Four ok w U2 (s + 4) s (s + 1) (s + 2) (s + 3)) := by
            obtain ⟨⟨v3, e3, f3, p3, P3⟩, bb⟩ := HA2.out
            have Q2 := HP2.out.keep2 bb (by omega) (by omega) (by omega) (by omega) HN.out.1 HN.out.2.1
            refine ⟨⟨_, _, _, _, P3⟩, ⟨_, _, _, _, Q2⟩, both_block bb (grown_keep (grown_drew _) HF.out.arr (by simp)) (by omega) (by omega), both_own (grown_trans HF.out.gr (grown_drew _)) bb (by have h9 := Hs.out; omega) (by have h9 := Hs.out; omega)⟩
          clear HA2 HP2 AC hHeld hHeld2
          go_wp2_with fail
          go_roundw
          case rel => exact ⟨i + 1, hil, by first | rfl | (rw [hsm.wrap hil]; rfl), HF2.out⟩
          case measure => first | exact meas_next hil | (rw [hsm.wrap hil]; exact meas_next hil)
        · have HPa : Hid (PrE ok U.drew (s + 2) (s + 3)) := HF.out.two.keep (grown_drew _)
          have HPb : Hid (PrE ok U.drew s (s + 1)) := HF.out.one.keep (grown_drew _)
          obtain ⟨v1, e1, f1, p1, P1⟩ := HPa.out
          obtain ⟨v2, e2, f2, p2, P2⟩ := HPb.out
          have AC := act_any ok (s + 2) (s + 3) v1 e1 f1 p1 s (s + 1) v2 e2 f2 p2 d U.drew P1 P2 HN.out.2.2.1 HN.out.2.2.2 (by omega) (fun j hj => Hnew.out j (by have h9 := block_lt HF.out.arr; have h8 : U.drew.heap.size = U.heap.size := rfl; omega)) ⟨HDi.out.ps.keep (grown_drew _), HDi.out.fit, HDi.out.wf, HDi.out.t, HDi.out.m⟩
          have HP2 : Hid (Pr ok U.drew s (s + 1) v2 e2 f2 p2) := P2
          clear P1 P2 HPa HPb HDi
          go_upto_region 10 with fail
          refine wp_region_held_drew (S := fun w' => w'.heap[s + 4]? = some (.cells #[.pointer (some ⟨s, 0, none⟩), .pointer (some ⟨s + 1, 0, none⟩), .pointer (some ⟨s + 2, 0, none⟩), .pointer (some ⟨s + 3, 0, none⟩)] 29 (0, 0)) ∧ w.grownBy w' none) (by kernel_rfl) ⟨grown_keep (grown_drew _) HF.out.arr (by simp), grown_trans HF.out.gr (grown_drew _)⟩ (fun hHeld => ?_)
          refine wpAnyH_take (i := 0) (v := ?_) rfl (by kernel_rfl) (by kernel_rfl) (by kernel_rfl) (fun _ _ _ h => h) (Or.inl ⟨by rfl, ?_⟩) (by assumption) ?_
          rotate_left 1
          · (intro w0 hSw; go_simp; try with_reducible rfl)
          simp only [List.getElem_toArray, List.getElem_cons_zero]
          go_frame
          refine wpAnyH_take (i := 1) (v := ?_) rfl (by kernel_rfl) (by kernel_rfl) (by kernel_rfl) (fun _ _ _ h => h) (Or.inl ⟨by rfl, ?_⟩) (by assumption) ?_
          rotate_left 1
          · (intro w0 hSw; go_simp; try with_reducible rfl)
          simp only [List.getElem_toArray, List.getElem_cons_zero, List.getElem_cons_succ]
          go_frame
          refine wpAnyH_take (i := 2) (v := ?_) rfl (by kernel_rfl) (by kernel_rfl) (by kernel_rfl) (fun _ _ _ h => h) (Or.inl ⟨by rfl, ?_⟩) (by assumption) ?_
          rotate_left 1
          · (intro w0 hSw; have ya := block_cell hSw.1 2; have yb := block_cell hSw.1 3; simp only [List.getElem?_toArray, List.getElem?_cons_zero, List.getElem?_cons_succ] at ya yb; go_simp; try with_reducible rfl)
          simp only [List.getElem_toArray, List.getElem_cons_zero, List.getElem_cons_succ]
          go_frame
          refine wpAnyH_take (i := 3) (v := ?_) rfl (by kernel_rfl) (by kernel_rfl) (by kernel_rfl) (fun _ _ _ h => h) (Or.inl ⟨by rfl, ?_⟩) (by assumption) ?_
          rotate_left 1
          · (intro w0 hSw; go_simp; try with_reducible rfl)
          simp only [List.getElem_toArray, List.getElem_cons_zero, List.getElem_cons_succ]
          go_frame
          refine wpAnyH_take (i := 4) (v := ?_) rfl (by kernel_rfl) (by kernel_rfl) (by kernel_rfl) (fun _ _ _ h => h) (Or.inl ⟨by rfl, ?_⟩) (by assumption) ?_
          rotate_left 1
          · (intro w0 hSw; go_simp; try with_reducible rfl)
          simp only [List.getElem_toArray, List.getElem_cons_zero, List.getElem_cons_succ]
          go_frame
          refine wpAnyH_take (i := 5) (v := ?_) rfl (by kernel_rfl) (by kernel_rfl) (by kernel_rfl) (fun _ _ _ h => h) (Or.inl ⟨by rfl, ?_⟩) (by assumption) ?_
          rotate_left 1
          · (intro w0 hSw; go_simp; try with_reducible rfl)
          simp only [List.getElem_toArray, List.getElem_cons_zero, List.getElem_cons_succ]
          go_frame
          refine wpAnyH_take (i := 6) (v := .agg (dcs d.1)) rfl (by kernel_rfl) (by kernel_rfl) (by kernel_rfl) (fun _ _ _ h => h) (yieldsIf_load_mid (by rfl) 41 (.tmp 43) rfl g (o + i * 18) rfl (dcs d.1).toList _ (fun w0 hSw => fun j u hu => World.grownBy.cell hSw.2 (HRW.out j u hu) (by simp)) Tryz.underlying41 rfl (by kernel_rfl)) (by assumption) ?_
          simp only [List.getElem_toArray, List.getElem_cons_zero, List.getElem_cons_succ]
          go_frame
          refine wpAnyH_take (i := 7) (v := ?_) rfl (by kernel_rfl) (by kernel_rfl) (by kernel_rfl) (fun _ _ _ h => h) (Or.inl ⟨by rfl, ?_⟩) (by assumption) ?_
          rotate_left 1
          · (intro w0 hSw; go_simp; try with_reducible rfl)
          simp only [List.getElem_toArray, List.getElem_cons_zero, List.getElem_cons_succ]
          go_frame
          refine wpAnyH_take (i := 8) (v := ?_) rfl (by kernel_rfl) (by kernel_rfl) (by kernel_rfl) (fun _ _ _ h => h) (Or.inl ⟨by rfl, ?_⟩) (by assumption) ?_
          rotate_left 1
          · (intro w0 hSw; go_simp; try with_reducible rfl)
          simp only [List.getElem_toArray, List.getElem_cons_zero, List.getElem_cons_succ]
          go_frame
          refine wpAnyH_take (i := 9) (v := ?_) rfl (by kernel_rfl) (by kernel_rfl) (by kernel_rfl) (fun _ _ _ h => h) (Or.inl ⟨by rfl, ?_⟩) (by assumption) ?_
          rotate_left 1
          · (intro w0 hSw; go_simp; try with_reducible rfl)
          simp only [List.getElem_toArray, List.getElem_cons_zero, List.getElem_cons_succ]
          go_frame
          refine wpAnyH_take (i := 10) (v := ?_) rfl (by kernel_rfl) (by kernel_rfl) (by kernel_rfl) (fun _ _ _ h => h) (Or.inl ⟨by rfl, ?_⟩) (by assumption) ?_
          rotate_left 1
          · (intro w0 hSw; have ya := block_cell hSw.1 0; have yb := block_cell hSw.1 1; simp only [List.getElem?_toArray, List.getElem?_cons_zero, List.getElem?_cons_succ] at ya yb; go_simp; try with_reducible rfl)
          simp only [List.getElem_toArray, List.getElem_cons_zero, List.getElem_cons_succ]
          go_frame
          refine wpAnyH_ready (rs := [11]) (by kernel_rfl) (by simp) ?_
          refine AllReadyH.cons rfl (fun K hK => ?_) AllReadyH.nil
          simp only [List.getElem_toArray, List.getElem_cons_zero, List.getElem_cons_succ]
          go_simp
          go_at_call 6
          refine (AC).mono ?_
          rintro e U2 ⟨rfl, A2⟩
          have HA2 : Hid (ActPost ok U.drew U2 (s + 2) (s + 3)) := A2
          clear A2
          refine hK.out _ _ ⟨both_block HA2.out.2 (grown_keep (grown_drew _) HF.out.arr (by simp)) (by omega) (by omega), both_own (grown_trans HF.out.gr (grown_drew _)) HA2.out.2 (by have h9 := Hs.out; omega) (by have h9 := Hs.out; omega)⟩ (fun hHeld2 => ?_)
          clear hK K
          (try go_frame)
          refine wpAnyH_take (i := 12) (v := ?_) rfl (by kernel_rfl) (by kernel_rfl) (by kernel_rfl) (fun _ _ _ h => h) (Or.inl ⟨by rfl, ?_⟩) (by assumption) ?_
          rotate_left 1
          · (intro w0 hSw; go_simp; try with_reducible rfl)
          simp only [List.getElem_toArray, List.getElem_cons_zero, List.getElem_cons_succ]
          go_frame
          refine wpAnyH_done (by kernel_rfl) ?_ _
          have HF2 : Hid (Four ok w U2 (s + 4) s (s + 1) (s + 2) (s + 3)) := by
            obtain ⟨⟨v3, e3, f3, p3, P3⟩, bb⟩ := HA2.out
            have Q2 := HP2.out.keep2 bb (by omega) (by omega) (by omega) (by omega) HN.out.2.2.1 HN.out.2.2.2
            refine ⟨⟨_, _, _, _, Q2⟩, ⟨_, _, _, _, P3⟩, both_block bb (grown_keep (grown_drew _) HF.out.arr (by simp)) (by omega) (by omega), both_own (grown_trans HF.out.gr (grown_drew _)) bb (by have h9 := Hs.out; omega) (by have h9 := Hs.out; omega)⟩
          clear HA2 HP2 AC hHeld hHeld2
          go_wp2_with fail
          go_roundw
          case rel => exact ⟨i + 1, hil, by first | rfl | (rw [hsm.wrap hil]; rfl), HF2.out⟩
          case measure => first | exact meas_next hil | (rw [hsm.wrap hil]; exact meas_next hil)
      · have i1 : ¬ (i : Int) < (ds.length : Int) := by omega
        clear hie
        have x0 : U.cell? ⟨s + 4, 0, none⟩ = some (.pointer (some ⟨s, 0, none⟩)) := block_cell HF.out.arr 0
        have x1 : U.cell? ⟨s + 4, 1, none⟩ = some (.pointer (some ⟨s + 1, 0, none⟩)) := block_cell HF.out.arr 1
        have x2 : U.cell? ⟨s + 4, 2, none⟩ = some (.pointer (some ⟨s + 2, 0, none⟩)) := block_cell HF.out.arr 2
        have x3 : U.cell? ⟨s + 4, 3, none⟩ = some (.pointer (some ⟨s + 3, 0, none⟩)) := block_cell HF.out.arr 3
        obtain ⟨v1, e1, f1, p1, P1⟩ := HF.out.one
        obtain ⟨v2, e2, f2, p2, P2⟩ := HF.out.two
        have C1 := pcards_any ok s (s + 1) v1 e1 f1 p1 0 U P1
        have HP2 : Hid (Pr ok U (s + 2) (s + 3) v2 e2 f2 p2) := P2
        clear P1 P2
        go_wp2_with fail
        refine C1.mono ?_
        rintro e U1 ⟨rfl, g1⟩
        have HG1 : Hid (w.grownBy U1 none) := grown_trans HF.out.gr g1
        have y2 := g1.cell x2 (by simp)
        have y3 := g1.cell x3 (by simp)
        have C2 := pcards_any ok (s + 2) (s + 3) v2 e2 f2 p2 0 U1 (HP2.out.keep g1)
        clear C1 g1 x0 x1 x2 x3
        go_wp2_with fail
        refine C2.mono ?_
        rintro e U2 ⟨rfl, g2⟩
        have HG2 : Hid (w.grownBy U2 none) := grown_trans HG1.out g2
        clear C2 g2
        go_wp2
        go_ret
        exact ⟨rfl, HG2.out⟩
end Go.Proofs.YtiikbhejnblhlaaGreat
