/-
  What the document's own Parse tells of every text: the card, or the error, that the program's tells.
  CardParses: of every text the card, or the error, that the document's own Parse tells; each answer is new memory.
-/
import Derived.Test.YtpceelbphpfciaaGreatDoorR6Head
import Derived.Test.YtpceelbphpfciaaGreatDoorR6Prt
import Derived.Test.YtpceelbphpfciaaGreatDoorRC
import Derived.Test.YtpceelbphpfciaaGreatDoorCParse
import Derived.Deep.CutBlock
import Derived.Test.YtpceelbphpfciaaGreatDoorRE
import Derived.Test.YtpceelbphpfciaaGreatDoorCSame
namespace Go.Proofs.YtpceelbphpfciaaGreatDoor
open Go.RowKit

theorem num6_b1 {n : Int} (h : 0 ≤ n ∧ n ≤ 99) (l : List UInt8) : 0 ≤ num6 1 n l ∧ num6 1 n l ≤ 999 := by
  cases l with
  | nil => simp only [num6]; omega
  | cons c r =>
    simp only [num6]
    split <;> omega
theorem num6_b2 {n : Int} (h : 0 ≤ n ∧ n ≤ 9) (l : List UInt8) : 0 ≤ num6 2 n l ∧ num6 2 n l ≤ 999 := by
  cases l with
  | nil => simp only [num6]; omega
  | cons c r =>
    rw [num6]
    split
    · exact num6_b1 (by omega) r
    · omega
theorem num6_b3 (l : List UInt8) : 0 ≤ num6 3 0 l ∧ num6 3 0 l ≤ 999 := by
  cases l with
  | nil => simp only [num6]; omega
  | cons c r =>
    rw [num6]
    split
    · exact num6_b2 (by omega) r
    · omega
theorem rh1_wf {i : Nat} {w : List UInt8} {c : Cd} (h : c.wf) : (rh1 i w c).wf := by
  have hs : idx suitW w ≤ suitW.length := idx_le
  have h6 : suitW.length = 6 := rfl
  have hn := num6_b3 w
  have hp := num6_b3 ((rpcs w [47]).getD 0 [])
  have hq := num6_b3 ((rpcs w [47]).getD 1 [])
  unfold rh1
  split
  · exact ⟨h.su, h.kd, h.co, h.po, h.he, h.tr, h.ps⟩
  split
  · exact ⟨by simp only; omega, h.kd, h.co, h.po, h.he, h.tr, h.ps⟩
  split
  · exact ⟨h.su, by simp only; omega, h.co, h.po, h.he, h.tr, h.ps⟩
  split
  · exact ⟨h.su, by simp only; omega, h.co, h.po, h.he, h.tr, h.ps⟩
  split
  · exact ⟨h.su, by simp only; omega, h.co, h.po, h.he, h.tr, h.ps⟩
  split
  · exact ⟨h.su, h.kd, by simp only; omega, h.po, h.he, h.tr, h.ps⟩
  split
  · exact ⟨h.su, h.kd, h.co, by simp only; omega, by simp only; omega, h.tr, h.ps⟩
  split
  · exact ⟨h.su, h.kd, h.co, h.po, h.he, h.tr, h.ps⟩
  split
  · split
    · exact h
    · exact ⟨h.su, h.kd, h.co, h.po, h.he, or_range _ _, h.ps⟩
  · exact h
theorem rhF_wf : ∀ (ws : List (List UInt8)) (i : Nat) (c : Cd), c.wf → (rhF i ws c).wf
  | [], _, _, h => h
  | _ :: r, i, _, h => rhF_wf r (i + 1) _ (rh1_wf h)
theorem cnone_wf : Cd.none.wf := ⟨by decide, by decide, by decide, by decide, by decide, by decide, by simp [Cd.none]⟩
theorem rhead_wf (ws : List (List UInt8)) : (rhead ws).wf := rhF_wf ws 0 _ cnone_wf
theorem with_wf {c : Cd} {ps : List Pt} (h : c.wf) (hp : ∀ p ∈ ps, chk p = 0) : (c.hd.with ps).wf := ⟨h.su, h.kd, h.co, h.po, h.he, h.tr, fun p hm => chk_wf (hp p hm)⟩
theorem gcutF_ne (s b : List UInt8) : ∀ (n a i : Nat), gcutF s b n a i ≠ []
  | 0, a, i => by simp [gcutF]
  | n + 1, a, i => by
    rw [gcutF]
    split
    · split
      · simp
      · exact gcutF_ne s b n _ _
    · simp
theorem gcutF_len (s b : List UInt8) : ∀ (n a i : Nat), (gcutF s b n a i).length ≤ n + 1
  | 0, a, i => by simp [gcutF]
  | n + 1, a, i => by
    rw [gcutF]
    split
    · split
      · have := gcutF_len s b n (i + b.length) (i + 1)
        simp only [List.length_cons]
        omega
      · have := gcutF_len s b n a (i + 1)
        omega
    · simp
theorem gcutF_mem (s b : List UInt8) : ∀ (n a i : Nat), ∀ x ∈ gcutF s b n a i, x.length ≤ s.length
  | 0, a, i, x, h => by
    simp only [gcutF, List.mem_cons, List.not_mem_nil, or_false] at h
    subst h
    simp
  | n + 1, a, i, x, h => by
    rw [gcutF] at h
    split at h
    · split at h
      · rcases List.mem_cons.1 h with rfl | h
        · simp only [List.length_take, List.length_drop]
          omega
        · exact gcutF_mem s b n _ _ x h
      · exact gcutF_mem s b n _ _ x h
    · simp only [List.mem_cons, List.not_mem_nil, or_false] at h
      subst h
      simp
theorem rpcs_len (s b : List UInt8) : (rpcs s b).length ≤ s.length + 2 := gcutF_len s b _ 0 0
theorem rpcs_mem {s b x : List UInt8} (h : x ∈ rpcs s b) : x.length ≤ s.length := gcutF_mem s b _ 0 0 x h
theorem rpcs_ne (s b : List UInt8) : rpcs s b ≠ [] := gcutF_ne s b _ 0 0
/-- The end of the document's Parse, behind the parts. -/
def fin6 (c : Cd) (s : List UInt8) : Cd × Int := if cchk c = 0 ∧ cprt c = s then (c, 0) else (Cd.none, 160)
theorem rparse6_is {s : List UInt8} (h : ¬ 512 < s.length) {x : List UInt8} {ts : List (List UInt8)} (hr : rpcs s barS = x :: ts) : rparse6 s = match readPs ts [] with
    | none => (Cd.none, 160)
    | some ps => fin6 ((rhead (rpcs x [32])).hd.with ps) s := by
  unfold rparse6
  rw [if_neg h, hr]
  simp only
  cases readPs ts [] <;> rfl
theorem readPs_at {ts : List (List UInt8)} {j : Nat} {t : List UInt8} (h : ts[j]? = some t) (ps : List Pt) : readPs (ts.drop j) ps = if (parse t).2 = 0 then readPs (ts.drop (j + 1)) (ps ++ [(parse t).1]) else none := by
  obtain ⟨hj, e⟩ := List.getElem?_eq_some_iff.1 h
  rw [List.drop_eq_getElem_cons hj, e]
  rfl
theorem meas1 {n j : Nat} (h : j < n) : n + 1 - (intOf (.int .i64 ((j : Int) + 1 + 1))).toNat < n + 1 - (intOf (.int .i64 ((j : Int) + 1))).toNat := by
  simp only [intOf]
  omega
def babs (l : List (List UInt8)) : List ByteArray := l.map fun t => ⟨t.toArray⟩
theorem babs_back (l : List (List UInt8)) : (babs l).map (·.data.toList) = l := by
  unfold babs
  rw [List.map_map]
  exact List.map_id _
theorem own_words {w : World} {base : Nat} {v : Value} {l : List (List UInt8)} (h : Own w base 9 v (pcs l)) (hn : l ≠ []) : ∃ g cap, v = .slice (some ⟨g, 0, none⟩) (babs l).length cap ∧ W0At w g (babs l) ∧ base ≤ g ∧ g < w.heap.size := by
  rcases h.at with ⟨_, e⟩ | ⟨g, cap, rfl, hb, hg, _, hc⟩
  · exact absurd (by simpa [pcs] using e) hn
  · refine ⟨g, cap, by rw [length_pcs]; simp [babs], fun i x hx => (hc i (.string x) ?_).1, hb, hg⟩
    rw [show pcs l = (babs l).map Value.string from by simp [pcs, babs, Function.comp_def], List.getElem?_map, hx]
    rfl
set_option maxHeartbeats 4000000 in
set_option maxRecDepth 100000 in
theorem r6parse_long (s : ByteArray) (h : 512 < s.size) (w : World) : Calls Tryz.prog 24 #[.string s] w fun e w' => pC w.heap.size (Cd.none, 3) e w' ∧ w.grownBy w' none := by
  have hb : (512 : Int) < (s.size : Int) := by omega
  clear h
  go_enter Tryz.func24, Tryz.ntmps24
  go_wp2
  refine bodyPost_ret (v := .tuple #[.agg #[.string ⟨#[]⟩, .int .u8 0, .int .u8 0, .int .i64 0, .int .i64 0, .int .i64 0, .int .u16 0, .bool false, .slice none 0 0], .int .i64 3]) (by simp [results, Tryz.results24, go_sem]) rfl ⟨?_, ?_⟩
  · exact pC_none _ _ _
  · exact World.grownBy_alloc _ _ _
set_option maxHeartbeats 2000000 in
set_option maxRecDepth 100000 in
theorem r6parse_short (s : ByteArray) (h : s.size ≤ 512) (w : World) : Calls Tryz.prog 24 #[.string s] w fun e w' => pC w.heap.size (rparse6 s.data.toList) e w' ∧ w.grownBy w' none := by
  obtain ⟨i0, hi, hz0, hz1, hz2⟩ := info_of Tryz.info29
  have hb : ¬ (512 : Int) < (s.size : Int) := by omega
  have hsz := Lib.size_eq s
  obtain ⟨x, ts, hr⟩ : ∃ x ts, rpcs s.data.toList barS = x :: ts := by
    cases hr : rpcs s.data.toList barS with
    | nil => exact absurd hr (rpcs_ne _ _)
    | cons x ts => exact ⟨x, ts, rfl⟩
  have HRES : Hid (rparse6 s.data.toList = match readPs ts [] with
    | none => (Cd.none, 160)
    | some ps => fin6 ((rhead (rpcs x [32])).hd.with ps) s.data.toList) := rparse6_is (by omega) hr
  have hlen := rpcs_len s.data.toList barS
  have hmem : ∀ y ∈ x :: ts, y.length ≤ 512 := fun y hy => by
    have := rpcs_mem (s := s.data.toList) (b := barS) (x := y) (by rw [hr]; exact hy)
    omega
  rw [hr] at hlen
  have HTL : Hid (ts.length ≤ 513) := by simp only [List.length_cons] at hlen; unfold Hid; omega
  have HMEM : Hid (∀ y ∈ x :: ts, y.length ≤ 512) := hmem
  obtain ⟨res, hres⟩ : ∃ res, res = rparse6 s.data.toList := ⟨_, rfl⟩
  rw [← hres] at HRES ⊢
  have CP1 : Hid (∀ W : World, Calls Tryz.prog 59 #[.string s, .string ⟨#[32, 124, 32]⟩] W fun e w' => ∃ v, e = .returned v ∧ Own w' W.heap.size 9 v (pcs (x :: ts)) ∧ W.grownBy w' none) := fun W => by
    have := rpcs_any s ⟨#[32, 124, 32]⟩ (by omega) (by decide) (by decide) W
    rw [show rpcs s.data.toList (⟨#[32, 124, 32]⟩ : ByteArray).data.toList = x :: ts from hr] at this
    exact this
  have CP2 : Hid (∀ W : World, Calls Tryz.prog 59 #[.string ⟨x.toArray⟩, .string ⟨#[32]⟩] W fun e w' => ∃ v, e = .returned v ∧ Own w' W.heap.size 9 v (pcs (rpcs x [32])) ∧ W.grownBy w' none) := fun W => rpcs_any ⟨x.toArray⟩ ⟨#[32]⟩ (by have := hmem x (by simp); rw [Lib.size_eq]; simp; omega) (by decide) (by decide) W
  have HZ0 : Hid (CAt (w.alloc (.cells (ccs Hd.none (.slice none 0 0)) 40)) w.heap.size Hd.none (.slice none 0 0)) := alloc_at w _ _
  clear h hlen hmem hr hres hsz
  go_enter Tryz.func24, Tryz.ntmps24
  go_wp2_with fail
  refine Calls.mono (CP1.out _) ?_
  rintro e w1 ⟨v4, rfl, o4, g1⟩
  obtain ⟨g4, c4, rfl, X4, -, hg4⟩ := own_words o4 (by simp)
  have HZ1 : Hid (CAt w1 w.heap.size Hd.none (.slice none 0 0)) := HZ0.out.keep g1
  have HG1 : Hid (w.grownBy w1 none) := grown_trans (World.grownBy_alloc _ _ none) g1
  have HX4 : Hid (W0At w1 g4 (babs (x :: ts))) := X4
  have y0 : w1.cell? ⟨g4, 0, none⟩ = some (.string ⟨x.toArray⟩) := X4 0 _ rfl
  have hbl : (babs (x :: ts)).length = ts.length + 1 := by simp [babs]
  rw [hbl]
  clear o4 g1 X4 HZ0 CP1 hbl
  go_wp2_with fail
  refine Calls.mono (CP2.out _) ?_
  rintro e w2 ⟨v5, rfl, o5, g2⟩
  obtain ⟨g5, c5, rfl, X5, -, hg5⟩ := own_words o5 (rpcs_ne _ _)
  have HZ2 : Hid (CAt w2 w.heap.size Hd.none (.slice none 0 0)) := HZ1.out.keep g2
  have HG2 : Hid (w.grownBy w2 none) := grown_trans HG1.out g2
  have HX2 : Hid (W0At w2 g4 (babs (x :: ts))) := fun i y hy => g2.cell (HX4.out i y hy) (by simp)
  have HX5 : Hid (W0At w2 g5 (babs (rpcs x [32]))) := X5
  have hg42 : Hid (g4 < w2.heap.size) := Nat.lt_of_lt_of_le hg4 g2.size
  clear o5 g2 X5 HZ1 HG1 HX4 CP2 y0 hg4
  go_wp2_with fail
  refine (rhead6_any g5 c5 (babs (rpcs x [32])) (by
    have h1 := rpcs_len x [32]
    have h2 := HMEM.out x (by simp)
    unfold babs
    rw [List.length_map]
    omega) (fun y hy => by
    obtain ⟨l, hm, rfl⟩ := List.mem_map.1 hy
    have h1 := rpcs_mem hm
    have h2 := HMEM.out x (by simp)
    show l.toArray.size ≤ 600
    simp
    omega) w2 HX5.out).mono ?_
  rintro e w3 ⟨rfl, g3⟩
  rw [babs_back]
  have HWF : Hid ((rhead (rpcs x [32])).wf) := rhead_wf _
  generalize rhead (rpcs x [32]) = hc at HRES HWF ⊢
  obtain ⟨h, hh⟩ : ∃ h, h = hc.hd := ⟨_, rfl⟩
  have HH : Hid (h = hc.hd) := hh
  rw [← hh] at HRES ⊢
  clear hh
  have HZ3 : Hid (CAt w3 w.heap.size Hd.none (.slice none 0 0)) := HZ2.out.keep g3
  have HX3 : Hid (W0At w3 g4 (babs (x :: ts))) := fun i y hy => g3.cell (HX2.out i y hy) (by simp)
  have hqs : w.heap.size < w3.heap.size := block_lt HZ3.out
  have hg43 : Hid (g4 < w3.heap.size) := Nat.lt_of_lt_of_le hg42.out g3.size
  have HC4 : Hid (CAt (w3.alloc (.cells (ccs h (.slice none 0 0)) 40)) w3.heap.size h (.slice none 0 0)) := alloc_at w3 _ _
  have HZ4 : Hid (CAt (w3.alloc (.cells (ccs h (.slice none 0 0)) 40)) w.heap.size Hd.none (.slice none 0 0)) := HZ3.out.keep (World.grownBy_alloc _ _ none)
  have HG4 : Hid (w.grownBy (w3.alloc (.cells (ccs h (.slice none 0 0)) 40)) none) := grown_push (grown_trans HG2.out g3) _
  have HX4 : Hid (W0At (w3.alloc (.cells (ccs h (.slice none 0 0)) 40)) g4 (babs (x :: ts))) := fun i y hy => (World.grownBy_alloc _ _ none).cell (HX3.out i y hy) (by simp)
  clear g3 HZ2 HG2 HX2 HX5 hg42 HZ3 HX3
  obtain ⟨q, hq⟩ : ∃ q, q = w3.heap.size := ⟨_, rfl⟩
  obtain ⟨W4, hW4⟩ : ∃ W4, W4 = w3.alloc (.cells (ccs h (.slice none 0 0)) 40) := ⟨_, rfl⟩
  rw [← hW4] at HC4 HZ4 HG4 HX4
  unfold ccs at hW4
  simp only [cv]
  go_upto_block 0 with fail
  rw [← hW4]
  rw [← hq] at HC4 hqs hg43 ⊢
  clear hW4 hq
  go_wp2_with fail
  go_loopw [6] (fun v6 wr => ∃ (j : Nat) (ps : List Pt) (u : Value), j ≤ ts.length ∧ ps.length = j ∧ v6 = .int .i64 ((j : Int) + 1) ∧ (∀ p ∈ ps, chk p = 0) ∧ readPs ts [] = readPs (ts.drop j) ps ∧ CAt wr q h u ∧ POwn wr (q + 1) u ps ∧ CAt wr w.heap.size Hd.none (.slice none 0 0) ∧ W0At wr g4 (babs (x :: ts)) ∧ w.grownBy wr none) (fun v6 _ => ts.length + 1 - (intOf v6).toNat)
  case atStart => exact ⟨0, [], .slice none 0 0, Nat.zero_le _, rfl, rfl, by simp, rfl, HC4.out, POwn.nil _ _, HZ4.out, HX4.out, HG4.out⟩
  case round =>
    clear HC4 HZ4 HG4 HX4
    obtain ⟨j, ps, u, hj, hpl, rfl, hpc, hrd, C, O, Z, X, G⟩ := hrel
    have HC : Hid (CAt wr q h u) := C
    have HO : Hid (POwn wr (q + 1) u ps) := O
    have HZ : Hid (CAt wr w.heap.size Hd.none (.slice none 0 0)) := Z
    have HX : Hid (W0At wr g4 (babs (x :: ts))) := X
    have HG : Hid (w.grownBy wr none) := G
    have HPC : Hid (∀ p ∈ ps, chk p = 0) := hpc
    have HPL : Hid (ps.length = j) := hpl
    have HRD : Hid (readPs ts [] = readPs (ts.drop j) ps) := hrd
    obtain ⟨ua, uc, rfl⟩ := O.at.form
    have hjl : Hid (j ≤ 513) := Nat.le_trans hj HTL.out
    clear C O Z X G hpc hpl hrd
    rcases (show j = ts.length ∨ j < ts.length from by omega) with hE | hlt
    · have hjn : ¬ (j : Int) + 1 < (ts.length : Int) + 1 := by omega
      have HRE : Hid (res = fin6 (h.with ps) s.data.toList) := by
        unfold Hid
        rw [HRES.out, HRD.out, hE, List.drop_length]
        rfl
      have HWC : Hid ((h.with ps).wf) := by unfold Hid; rw [HH.out]; exact with_wf HWF.out HPC.out
      have HM : Hid (Small ps.length) := by have := hjl.out; have h2 := HPL.out; unfold Hid Small; omega
      clear hE hj HRES HRD HX HPC HPL hjl
      obtain ⟨c0, c1, c2, c3, c4, c5, c6, c7, c8⟩ := HC.out.cells
      go_wp2_with fail
      refine (r6print_any (h.with ps) (.slice ua ps.length uc) _ HO.out.at HM.out HWC.out).mono ?_
      rintro e w7 ⟨rfl, g7⟩
      have HC7 : Hid (CAt w7 q h (.slice ua ps.length uc)) := HC.out.keep g7
      have HZ7 : Hid (CAt w7 w.heap.size Hd.none (.slice none 0 0)) := HZ.out.keep g7
      have HO7 : Hid (POwn w7 (q + 1) (.slice ua ps.length uc) ps) := HO.out.keep g7 (by simp)
      have HG7 : Hid (w.grownBy w7 none) := grown_trans HG.out g7
      clear g7 HC HZ HO HG c0 c1 c2 c3 c4 c5 c6 c7 c8
      obtain ⟨c0, c1, c2, c3, c4, c5, c6, c7, c8⟩ := HC7.out.cells
      obtain ⟨z0, z1, z2, z3, z4, z5, z6, z7, z8⟩ := HZ7.out.cells
      have zf := fun i => HZ7.out.free i
      simp only [Hd.none] at z0 z1 z2 z3 z4 z5 z6 z7 z8
      obtain ⟨er, her⟩ : ∃ er, er = cchk (h.with ps) := ⟨_, rfl⟩
      obtain ⟨t, ht⟩ : ∃ t, t = cprB (h.with ps) := ⟨_, rfl⟩
      rw [← her, ← ht]
      by_cases hc : cchk (h.with ps) = 0
      · have e0 : t = ⟨(cprt (h.with ps)).toArray⟩ := by rw [ht]; unfold cprB; rw [if_pos hc]
        rw [hc] at her
        subst her
        by_cases hx : cprt (h.with ps) = s.data.toList
        · have hn : (t.toList == s.toList) = true := by
            rw [e0, Lib.toList_data, Lib.toList_data]
            simpa using hx
          have hn' : (t.toList != s.toList) = false := by simp only [bne, hn]; rfl
          have HE : Hid (res = (h.with ps, 0)) := by unfold Hid; rw [HRE.out, fin6, if_pos ⟨hc, hx⟩]
          have HF : Hid (POwn (((((((((w7.setCell ⟨w.heap.size, 0, none⟩ (.string h.nm)).setCell ⟨w.heap.size, 1, none⟩ (.int .u8 h.su)).setCell ⟨w.heap.size, 2, none⟩ (.int .u8 h.kd)).setCell ⟨w.heap.size, 3, none⟩ (.int .i64 h.co)).setCell ⟨w.heap.size, 4, none⟩ (.int .i64 h.po)).setCell ⟨w.heap.size, 5, none⟩ (.int .i64 h.he)).setCell ⟨w.heap.size, 6, none⟩ (.int .u16 h.tr)).setCell ⟨w.heap.size, 7, none⟩ (.bool h.tk)).setCell ⟨w.heap.size, 8, none⟩ (.slice ua ps.length uc)) w.heap.size (.slice ua ps.length uc) ps) := (HO7.out.keep (row_st9 _ w.heap.size _ _ _ _ _ _ _ _ _) (fun x e => by cases e; omega)).big (by omega)
          clear e0 hx hc ht HC7 HZ7 HO7 HRE
          go_wp2
          refine bodyPost_ret (v := .tuple #[cv h (.slice ua ps.length uc), .int .i64 0]) (by simp [results, Tryz.results24, go_sem, z0, z1, z2, z3, z4, z5, z6, z7, z8, cv]) rfl ⟨?_, ?_⟩
          · rw [HE.out]
            exact ⟨_, rfl, HF.out⟩
          · exact grown_own HG7.out (row_st9 _ w.heap.size _ _ _ _ _ _ _ _ _) (fun x e => by cases e; exact Nat.le_refl _)
        · have hn : (t.toList == s.toList) = false := by
            rw [e0, Lib.toList_data, Lib.toList_data]
            simpa using hx
          have hn' : (t.toList != s.toList) = true := by simp only [bne, hn]; rfl
          have HE : Hid (res = (Cd.none, 160)) := by unfold Hid; rw [HRE.out, fin6, if_neg (fun e => hx e.2)]
          clear e0 hx hc ht HC7 HZ7 HO7 HRE
          go_wp2
          refine bodyPost_ret (v := .tuple #[.agg #[.string ⟨#[]⟩, .int .u8 0, .int .u8 0, .int .i64 0, .int .i64 0, .int .i64 0, .int .u16 0, .bool false, .slice none 0 0], .int .i64 160]) (by simp [results, Tryz.results24, go_sem, z0, z1, z2, z3, z4, z5, z6, z7, z8]) rfl ⟨?_, ?_⟩
          · rw [HE.out]
            exact pC_none _ _ _
          · exact grown_own HG7.out (row_st9 _ w.heap.size _ _ _ _ _ _ _ _ _) (fun x e => by cases e; exact Nat.le_refl _)
      · have HE : Hid (res = (Cd.none, 160)) := by unfold Hid; rw [HRE.out, fin6, if_neg (fun e => hc e.1)]
        rw [← her] at hc
        have hn : (er != 0) = true := by simpa using hc
        have hn2 : (er == 0) = false := by simpa using hc
        clear hc her ht HC7 HZ7 HO7 HRE
        go_wp2
        refine bodyPost_ret (v := .tuple #[.agg #[.string ⟨#[]⟩, .int .u8 0, .int .u8 0, .int .i64 0, .int .i64 0, .int .i64 0, .int .u16 0, .bool false, .slice none 0 0], .int .i64 160]) (by simp [results, Tryz.results24, go_sem, z0, z1, z2, z3, z4, z5, z6, z7, z8]) rfl ⟨?_, ?_⟩
        · rw [HE.out]
          exact pC_none _ _ _
        · exact grown_own HG7.out (row_st9 _ w.heap.size _ _ _ _ _ _ _ _ _) (fun x e => by cases e; exact Nat.le_refl _)
    · have hlt' : (j : Int) + 1 < (ts.length : Int) + 1 := by omega
      have hj0 : (0 : Int) ≤ (j : Int) + 1 := by omega
      have hw : wrap64 ((j : Int) + 1 + 1) = (j : Int) + 1 + 1 := by have := hjl.out; unfold wrap64; omega
      obtain ⟨t, ht⟩ : ∃ t, ts[j]? = some t := ⟨_, List.getElem?_eq_getElem hlt⟩
      have ck : wr.cell? ⟨g4, j + 1, none⟩ = some (.string ⟨t.toArray⟩) := HX.out (j + 1) _ (by simp [babs, ht])
      have hst := readPs_at ht ps
      have CPT : Hid (∀ W : World, Calls Tryz.prog 9 #[.string ⟨t.toArray⟩] W fun e w' => e = .returned (pe (parse t)) ∧ W.grownBy w' none) := fun W => by
        have := rparse_any ⟨t.toArray⟩ W
        rw [← parse_same] at this
        exact this
      have hgood : (parse t).2 = 0 → chk (parse t).1 = 0 := fun h => (parse_yes h).1
      generalize parse t = pr at hst CPT hgood
      obtain ⟨⟨p0, p1, p2, p3, p4, p5, p6, p7⟩, er⟩ := pr
      simp only at hst hgood
      clear ht
      by_cases her : er = 0
      · subst her
        rw [if_pos rfl] at hst
        have HST : Hid (readPs ts [] = readPs (ts.drop (j + 1)) (ps ++ [⟨p0, p1, p2, p3, p4, p5, p6, p7⟩])) := by unfold Hid; rw [HRD.out]; exact hst
        have HPC2 : Hid (∀ p ∈ ps ++ [(⟨p0, p1, p2, p3, p4, p5, p6, p7⟩ : Pt)], chk p = 0) := fun p hp => by
          rcases List.mem_append.1 hp with h | h
          · exact HPC.out p h
          · simp at h; rw [h]; exact hgood rfl
        clear hst hgood HRD HPC
        go_wp2_with fail
        refine Calls.mono (CPT.out _) ?_
        rintro e w6 ⟨rfl, g6⟩
        unfold pe pv
        obtain ⟨W7, hW7⟩ : ∃ W7, W7 = w6.alloc (.cells #[.int .u8 p0, .int .u8 p1, .int .u8 p2, .int .i64 p3, .int .u8 p4, .int .u8 p5, .int .u8 p6, .string p7] 29) := ⟨_, rfl⟩
        have G7 : Hid (wr.grownBy W7 none) := by unfold Hid; rw [hW7]; exact grown_push g6 _
        have A7 : PAt W7 w6.heap.size ⟨p0, p1, p2, p3, p4, p5, p6, p7⟩ := by rw [hW7]; exact PAt.new w6 ⟨p0, p1, p2, p3, p4, p5, p6, p7⟩
        have C7 : CAt W7 q h (.slice ua ps.length uc) := HC.out.keep G7.out
        have O7 : POwn W7 (q + 1) (.slice ua ps.length uc) ps := HO.out.keep G7.out (by simp)
        have c8 := C7.cells.2.2.2.2.2.2.2.2
        obtain ⟨d0, d1, d2, d3, d4, d5, d6, d7⟩ := A7.cells
        simp only at d0 d1 d2 d3 d4 d5 d6 d7
        have HC7 : Hid (CAt W7 q h (.slice ua ps.length uc)) := C7
        have HO7 : Hid (POwn W7 (q + 1) (.slice ua ps.length uc) ps) := O7
        have hqW : q < W7.heap.size := block_lt C7
        clear C7 O7 A7 HC HO g6 CPT ck
        go_upto_region 11 with fail
        rw [← hW7]
        clear hW7
        go_wp2_with (at_builtin; refine wpList_append_own_at _ rfl (.tmp 40) (.tmp 42) 38 rfl (q + 1) 29 i0 _ 8 40 Tryz.underlying38 hi hz0 hz1 hz2 rfl (by decide) _ ps.length (pcells ps) rfl (World.ownsRow.alloc HO7.out _) ⟨W7.heap.size, 0, none⟩ 1 1 (pcells [⟨p0, p1, p2, p3, p4, p5, p6, p7⟩]) rfl rfl (p_new_cells W7 _) (pcells_one _) (by have := hjl.out; have h2 := HPL.out; unfold maxLen; omega) (by have := hjl.out; have h2 := HPL.out; omega) (by rw [World.size_alloc]; omega) ?_; intro v8 w8 o8 g8 _ _; obtain ⟨a8, k8, e8v⟩ := (own_app o8).at.form; simp only [List.length_append, List.length_cons, List.length_nil, Nat.zero_add] at e8v; subst e8v; have C8 : CAt w8 q h (.slice ua ps.length uc) := (HC7.out.keep (World.grownBy_alloc _ _ none)).keepR g8 (fun e => by have := HO7.out.block q e.symm; omega); have f8 := C8.free 8; have e8 := C8.cells.2.2.2.2.2.2.2.2; have HC8 : Hid (CAt w8 q h (.slice ua ps.length uc)) := C8; clear C8)
        have HO8 : Hid (POwn w8 (q + 1) (.slice a8 (ps.length + 1) k8) (ps ++ [⟨p0, p1, p2, p3, p4, p5, p6, p7⟩])) := own_app o8
        have HG8 : Hid (w.grownBy w8 none) := grown_own (grown_push (grown_trans HG.out G7.out) _) g8 (fun x e => by have := HO7.out.block x e; omega)
        have HZ8 : Hid (CAt w8 w.heap.size Hd.none (.slice none 0 0)) := ((HZ.out.keep G7.out).keep (World.grownBy_alloc _ _ none)).keepR g8 (fun e => by have := HO7.out.block _ e.symm; omega)
        have HX8 : Hid (W0At (w8.setCell ⟨q, 8, none⟩ (.slice a8 (ps.length + 1) k8)) g4 (babs (x :: ts))) := fun i y hy => (grown_set w8 q 8 _).cell (g8.cell ((World.grownBy_alloc _ _ none).cell (G7.out.cell (HX.out i y hy) (by simp)) (by simp)) (fun e => by have := HO7.out.block g4 e.symm; have h2 := hg43.out; omega)) (by have h2 := hg43.out; simp; omega)
        go_roundw
        case rel => exact ⟨j + 1, ps ++ [⟨p0, p1, p2, p3, p4, p5, p6, p7⟩], .slice a8 (ps.length + 1) k8, hlt, by simp [HPL.out], by go_num, HPC2.out, HST.out, HC8.out.parts _, HO8.out.keep (grown_set _ _ _ _) (fun x e => by cases e; omega), HZ8.out.keepR (grown_set _ _ _ _) (by simp; omega), HX8.out, grown_own HG8.out (grown_set _ _ _ _) (fun x e => by cases e; omega)⟩
        case measure => first | exact meas1 hlt | (rw [hw]; exact meas1 hlt)
      · rw [if_neg her] at hst
        have HE : Hid (res = (Cd.none, 160)) := by
          unfold Hid
          rw [HRES.out, HRD.out, hst]
        have hn : (er != 0) = true := by simpa using her
        have hn2 : (er == 0) = false := by simpa using her
        clear hst hgood her HRES HRD
        go_wp2_with fail
        refine Calls.mono (CPT.out _) ?_
        rintro e w6 ⟨rfl, g6⟩
        unfold pe pv
        have Z7 : CAt (w6.alloc (.cells #[.int .u8 p0, .int .u8 p1, .int .u8 p2, .int .i64 p3, .int .u8 p4, .int .u8 p5, .int .u8 p6, .string p7] 29)) w.heap.size Hd.none (.slice none 0 0) := (HZ.out.keep g6).keep (World.grownBy_alloc _ _ none)
        have HG7 : Hid (w.grownBy (w6.alloc (.cells #[.int .u8 p0, .int .u8 p1, .int .u8 p2, .int .i64 p3, .int .u8 p4, .int .u8 p5, .int .u8 p6, .string p7] 29)) none) := grown_push (grown_trans HG.out g6) _
        obtain ⟨z0, z1, z2, z3, z4, z5, z6, z7, z8⟩ := Z7.cells
        have zf := fun i => Z7.free i
        simp only [Hd.none] at z0 z1 z2 z3 z4 z5 z6 z7 z8
        clear g6 Z7 HZ HG CPT ck
        go_wp2
        refine bodyPost_ret (v := .tuple #[.agg #[.string ⟨#[]⟩, .int .u8 0, .int .u8 0, .int .i64 0, .int .i64 0, .int .i64 0, .int .u16 0, .bool false, .slice none 0 0], .int .i64 160]) (by simp [results, Tryz.results24, go_sem, z0, z1, z2, z3, z4, z5, z6, z7, z8]) rfl ⟨?_, ?_⟩
        · rw [HE.out]
          exact pC_none _ _ _
        · exact grown_own HG7.out (row_st9 _ w.heap.size _ _ _ _ _ _ _ _ _) (fun x e => by cases e; exact Nat.le_refl _)
/-- Of every text. -/
theorem r6parse_any (s : ByteArray) (w : World) : Calls Tryz.prog 24 #[.string s] w fun e w' => pC w.heap.size (cparse s.data.toList) e w' ∧ w.grownBy w' none := by
  rw [parse6_same]
  have hl := Lib.size_eq s
  by_cases h : 512 < s.size
  · have e : rparse6 s.data.toList = (Cd.none, 3) := by unfold rparse6; rw [if_pos (by omega)]
    rw [e]
    exact r6parse_long s h w
  · exact r6parse_short s (by omega) w
end Go.Proofs.YtpceelbphpfciaaGreatDoor
namespace Go.Proofs.YtpceelbphpfciaaGreatDoor
open Go.RowKit

/-- A list that the call has made itself, as one of those that lie apart. -/
theorem own_lst {w : World} {base : Nat} {v : Value} {ps : List Pt} (h : POwn w base v ps) : ∃ x : Lst, v = .slice (x.a.map fun g => ⟨g, 0, none⟩) x.n x.cap ∧ x.ok w ∧ ∀ g, x.a = some g → base ≤ g ∧ g < w.heap.size := by
  obtain ⟨_, ⟨rfl, _⟩ | ⟨g, cap, cur, rfl, hb, hh, hn, hc, hz, _⟩⟩ := h
  · exact ⟨⟨none, 0, 0⟩, rfl, Or.inl ⟨rfl, rfl, rfl⟩, fun g e => by cases e⟩
  · exact ⟨⟨some g, _, cap⟩, rfl, Or.inr ⟨g, rfl, hn, hc, cur, hh, hz⟩, fun g' e => by cases e; exact ⟨hb, block_lt hh⟩⟩
theorem Lst.ok.keep {w w' : World} {x : Lst} {r : Option Nat} (h : x.ok w) (g : w.grownBy w' r) (hr : ∀ b, x.a = some b → some b ≠ r) : x.ok w' := by
  rcases h with h | ⟨b, h1, h2, h3, h4⟩
  · exact Or.inl h
  · exact Or.inr ⟨b, h1, h2, h3, h4.keep g (hr b h1)⟩
theorem two_cells {w : World} {x y : Lst} : ∀ (j : Nat) z, [x, y][j]? = some z → (w.alloc (.cells #[.slice (x.a.map fun g => ⟨g, 0, none⟩) x.n x.cap, .slice (y.a.map fun g => ⟨g, 0, none⟩) y.n y.cap] 38)).cell? ⟨w.heap.size, j, none⟩ = some z.v := fun j z hj => by
  rw [block_cell (alloc_at w _ _)]
  match j, hj with
  | 0, hj => obtain rfl := Option.some.inj hj; rfl
  | 1, hj => obtain rfl := Option.some.inj hj; rfl
theorem two_diff {x y : Lst} (h : ∀ g, x.a = some g → y.a = some g → False) : Diff [x, y] := fun i j a b g hi hj ha hb => by
  match i, j, hi, hj with
  | 0, 0, _, _ => rfl
  | 1, 1, _, _ => rfl
  | 0, 1, hi, hj =>
    obtain rfl := Option.some.inj hi
    obtain rfl := Option.some.inj hj
    exact (h g ha hb).elim
  | 1, 0, hi, hj =>
    obtain rfl := Option.some.inj hi
    obtain rfl := Option.some.inj hj
    exact (h g hb ha).elim
set_option maxRecDepth 100000 in
set_option maxHeartbeats 1000000 in
theorem pars_any (s : ByteArray) (w : World) (L : LaidAt w) : Calls Tryz.prog 5 #[.string s] w fun e w' => e = .returned (.bool true) ∧ w.grownBy w' none := by
  have HL : Hid (LaidAt w) := L
  have C1 := fun W LW => cparse_any s W LW
  have C2 := fun W => r6parse_any s W
  have hsm : Small (cparse s.data.toList).1.ps.length := by
    by_cases hz : (cparse s.data.toList).2 = 0
    · have := (cmay_of (cparse_yes hz).1).len
      unfold Small
      omega
    · rw [cparse_no hz]
      unfold Small
      simp [Cd.none]
  generalize cparse s.data.toList = res at C1 C2 hsm
  obtain ⟨c, er⟩ := res
  simp only at hsm
  have HC1 : Hid (∀ W, LaidAt W → Calls Tryz.prog 23 #[.string s] W fun e w' => pC W.heap.size (c, er) e w' ∧ W.grownBy w' none) := C1
  have HC2 : Hid (∀ W, Calls Tryz.prog 24 #[.string s] W fun e w' => pC W.heap.size (c, er) e w' ∧ W.grownBy w' none) := C2
  have HSM : Hid (Small c.ps.length) := hsm
  clear L C1 C2 hsm
  go_enter Tryz.func5, Tryz.ntmps5
  go_wp2_with fail
  refine Calls.mono (HC1.out _ HL.out) ?_
  rintro e w1 ⟨⟨u1, rfl, O1⟩, g1⟩
  obtain ⟨x1, rfl, K1, B1⟩ := own_lst O1
  have HA1 : Hid (CAt (w1.alloc (.cells (ccs c.hd (.slice (x1.a.map fun g => ⟨g, 0, none⟩) x1.n x1.cap)) 40)) w1.heap.size c.hd (.slice (x1.a.map fun g => ⟨g, 0, none⟩) x1.n x1.cap)) := alloc_at w1 _ _
  have HG1 : Hid (w.grownBy (w1.alloc (.cells (ccs c.hd (.slice (x1.a.map fun g => ⟨g, 0, none⟩) x1.n x1.cap)) 40)) none) := grown_push g1 _
  have HO1 : Hid (POwn (w1.alloc (.cells (ccs c.hd (.slice (x1.a.map fun g => ⟨g, 0, none⟩) x1.n x1.cap)) 40)) w.heap.size (.slice (x1.a.map fun g => ⟨g, 0, none⟩) x1.n x1.cap) c.ps) := O1.keep (World.grownBy_alloc _ _ none) (by simp)
  have HK1 : Hid (x1.ok (w1.alloc (.cells (ccs c.hd (.slice (x1.a.map fun g => ⟨g, 0, none⟩) x1.n x1.cap)) 40))) := K1.keep (World.grownBy_alloc _ _ none) (by simp)
  have HB1 : Hid (∀ g, x1.a = some g → w.heap.size ≤ g ∧ g < w1.heap.size) := B1
  have HQW : Hid (w.heap.size ≤ w1.heap.size) := g1.size
  unfold ccs at HA1 HG1 HO1 HK1
  clear O1 K1 B1 g1
  simp only [cv]
  go_wp2_with fail
  refine Calls.mono (HC1.out _ (HL.out.keep HG1.out)) ?_
  rintro e w2 ⟨⟨u2, rfl, O2⟩, g2⟩
  rw [World.size_alloc] at O2
  obtain ⟨x2, rfl, K2, B2⟩ := own_lst O2
  have HG2 : Hid (w.grownBy (w2.alloc (.cells (ccs c.hd (.slice (x2.a.map fun g => ⟨g, 0, none⟩) x2.n x2.cap)) 40)) none) := grown_push (grown_trans HG1.out g2) _
  have gg := grown_push g2 (.cells (ccs c.hd (.slice (x2.a.map fun g => ⟨g, 0, none⟩) x2.n x2.cap)) 40)
  have HA2 : Hid (CAt (w2.alloc (.cells (ccs c.hd (.slice (x2.a.map fun g => ⟨g, 0, none⟩) x2.n x2.cap)) 40)) w1.heap.size c.hd (.slice (x1.a.map fun g => ⟨g, 0, none⟩) x1.n x1.cap)) := HA1.out.keep gg
  have HD2 : Hid (CAt (w2.alloc (.cells (ccs c.hd (.slice (x2.a.map fun g => ⟨g, 0, none⟩) x2.n x2.cap)) 40)) w2.heap.size c.hd (.slice (x2.a.map fun g => ⟨g, 0, none⟩) x2.n x2.cap)) := alloc_at w2 _ _
  have HO2 : Hid (POwn (w2.alloc (.cells (ccs c.hd (.slice (x2.a.map fun g => ⟨g, 0, none⟩) x2.n x2.cap)) 40)) w.heap.size (.slice (x1.a.map fun g => ⟨g, 0, none⟩) x1.n x1.cap) c.ps) := HO1.out.keep gg (by simp)
  have HP2 : Hid (POwn (w2.alloc (.cells (ccs c.hd (.slice (x2.a.map fun g => ⟨g, 0, none⟩) x2.n x2.cap)) 40)) (w1.heap.size + 1) (.slice (x2.a.map fun g => ⟨g, 0, none⟩) x2.n x2.cap) c.ps) := O2.keep (World.grownBy_alloc _ _ none) (by simp)
  have HK2 : Hid (x1.ok (w2.alloc (.cells (ccs c.hd (.slice (x2.a.map fun g => ⟨g, 0, none⟩) x2.n x2.cap)) 40))) := HK1.out.keep gg (by simp)
  have HJ2 : Hid (x2.ok (w2.alloc (.cells (ccs c.hd (.slice (x2.a.map fun g => ⟨g, 0, none⟩) x2.n x2.cap)) 40))) := K2.keep (World.grownBy_alloc _ _ none) (by simp)
  have HB2 : Hid (∀ g, x2.a = some g → w1.heap.size + 1 ≤ g ∧ g < w2.heap.size) := B2
  unfold ccs at HA2 HD2 HO2 HP2 HK2 HJ2 HG2
  clear O2 K2 B2 g2 gg HA1 HG1 HO1 HK1
  simp only [cv]
  go_wp2_with fail
  refine Calls.mono (HC2.out _) ?_
  rintro e w3 ⟨⟨u3, rfl, O3⟩, g3⟩
  obtain ⟨a3, k3, rfl⟩ := O3.at.form
  have gg := grown_push g3 (.cells (ccs c.hd (.slice a3 c.ps.length k3)) 40)
  have HG3 : Hid (w.grownBy (w3.alloc (.cells (ccs c.hd (.slice a3 c.ps.length k3)) 40)) none) := grown_trans HG2.out gg
  have HA3 : Hid (CAt (w3.alloc (.cells (ccs c.hd (.slice a3 c.ps.length k3)) 40)) w1.heap.size c.hd (.slice (x1.a.map fun g => ⟨g, 0, none⟩) x1.n x1.cap)) := HA2.out.keep gg
  have HD3 : Hid (CAt (w3.alloc (.cells (ccs c.hd (.slice a3 c.ps.length k3)) 40)) w2.heap.size c.hd (.slice (x2.a.map fun g => ⟨g, 0, none⟩) x2.n x2.cap)) := HD2.out.keep gg
  have HE3 : Hid (CAt (w3.alloc (.cells (ccs c.hd (.slice a3 c.ps.length k3)) 40)) w3.heap.size c.hd (.slice a3 c.ps.length k3)) := alloc_at w3 _ _
  have HO3 : Hid (POwn (w3.alloc (.cells (ccs c.hd (.slice a3 c.ps.length k3)) 40)) w.heap.size (.slice (x1.a.map fun g => ⟨g, 0, none⟩) x1.n x1.cap) c.ps) := HO2.out.keep gg (by simp)
  have HP3 : Hid (POwn (w3.alloc (.cells (ccs c.hd (.slice a3 c.ps.length k3)) 40)) (w1.heap.size + 1) (.slice (x2.a.map fun g => ⟨g, 0, none⟩) x2.n x2.cap) c.ps) := HP2.out.keep gg (by simp)
  have HQ3 : Hid (POwn (w3.alloc (.cells (ccs c.hd (.slice a3 c.ps.length k3)) 40)) 0 (.slice a3 c.ps.length k3) c.ps) := (O3.big (Nat.zero_le _)).keep (World.grownBy_alloc _ _ none) (by simp)
  have HK3 : Hid (x1.ok (w3.alloc (.cells (ccs c.hd (.slice a3 c.ps.length k3)) 40))) := HK2.out.keep gg (by simp)
  have HJ3 : Hid (x2.ok (w3.alloc (.cells (ccs c.hd (.slice a3 c.ps.length k3)) 40))) := HJ2.out.keep gg (by simp)
  clear O3 g3 gg HA2 HD2 HO2 HP2 HK2 HJ2 HG2
  obtain ⟨W3, hW3⟩ : ∃ W3, W3 = w3.alloc (.cells (ccs c.hd (.slice a3 c.ps.length k3)) 40) := ⟨_, rfl⟩
  rw [← hW3] at HG3 HA3 HD3 HE3 HO3 HP3 HQ3 HK3 HJ3
  unfold ccs at hW3
  simp only [cv]
  go_upto_region 4 with fail
  rw [← hW3]
  obtain ⟨q1, hq1⟩ : ∃ q1, q1 = w1.heap.size := ⟨_, rfl⟩
  obtain ⟨q2, hq2⟩ : ∃ q2, q2 = w2.heap.size := ⟨_, rfl⟩
  obtain ⟨q3, hq3⟩ : ∃ q3, q3 = w3.heap.size := ⟨_, rfl⟩
  rw [← hq1] at HA3 HP3 HB1 HB2 HQW
  rw [← hq2] at HD3 HB2
  rw [← hq3] at HE3
  rw [← hq1, ← hq2, ← hq3]
  clear hW3 hq1 hq2 hq3
  obtain ⟨c0, c1, c2, c3, c4, c5, c6, c7, c8⟩ := HA3.out.cells
  obtain ⟨d0, d1, d2, d3, d4, d5, d6, d7, d8⟩ := HE3.out.cells
  go_wp2_with fail
  refine (sameCard_any c.hd c.hd (.slice (x1.a.map fun g => ⟨g, 0, none⟩) x1.n x1.cap) (.slice a3 c.ps.length k3) c.ps c.ps _ HO3.out.at HQ3.out.at HSM.out).mono ?_
  rintro e w4 ⟨rfl, g4⟩
  rw [sameHd_refl, samePs_refl]
  have HG4 : Hid (w.grownBy w4 none) := grown_trans HG3.out g4
  have HA4 : Hid (CAt w4 q1 c.hd (.slice (x1.a.map fun g => ⟨g, 0, none⟩) x1.n x1.cap)) := HA3.out.keep g4
  have HD4 : Hid (CAt w4 q2 c.hd (.slice (x2.a.map fun g => ⟨g, 0, none⟩) x2.n x2.cap)) := HD3.out.keep g4
  have HE4 : Hid (CAt w4 q3 c.hd (.slice a3 c.ps.length k3)) := HE3.out.keep g4
  have HP4 : Hid (POwn w4 (q1 + 1) (.slice (x2.a.map fun g => ⟨g, 0, none⟩) x2.n x2.cap) c.ps) := HP3.out.keep g4 (by simp)
  have HQ4 : Hid (POwn w4 0 (.slice a3 c.ps.length k3) c.ps) := HQ3.out.keep g4 (by simp)
  have HK4 : Hid (x1.ok w4) := HK3.out.keep g4 (by simp)
  have HJ4 : Hid (x2.ok w4) := HJ3.out.keep g4 (by simp)
  clear g4 HG3 HA3 HD3 HE3 HO3 HP3 HQ3 HK3 HJ3 c0 c1 c2 c3 c4 c5 c6 c7 c8 d0 d1 d2 d3 d4 d5 d6 d7 d8
  obtain ⟨c0, c1, c2, c3, c4, c5, c6, c7, c8⟩ := HD4.out.cells
  obtain ⟨d0, d1, d2, d3, d4, d5, d6, d7, d8⟩ := HE4.out.cells
  go_wp2_with fail
  refine (sameCard_any c.hd c.hd (.slice (x2.a.map fun g => ⟨g, 0, none⟩) x2.n x2.cap) (.slice a3 c.ps.length k3) c.ps c.ps _ HP4.out.at HQ4.out.at HSM.out).mono ?_
  rintro e w5 ⟨rfl, g5⟩
  rw [sameHd_refl, samePs_refl]
  have HG5 : Hid (w.grownBy w5 none) := grown_trans HG4.out g5
  have c8 := (HA4.out.keep g5).cells.2.2.2.2.2.2.2.2
  have d8 := (HD4.out.keep g5).cells.2.2.2.2.2.2.2.2
  have HK5 : Hid (x1.ok w5) := HK4.out.keep g5 (by simp)
  have HJ5 : Hid (x2.ok w5) := HJ4.out.keep g5 (by simp)
  clear g5 HG4 HA4 HD4 HE4 HP4 HQ4 HK4 HJ4 c0 c1 c2 c3 c4 c5 c6 c7 d0 d1 d2 d3 d4 d5 d6 d7
  go_wp2_with fail
  refine (apart_any w5.heap.size 2 [x1, x2] _ (by simp) (by simp) two_cells (fun x hx => by
    simp only [List.mem_cons, List.not_mem_nil, or_false] at hx
    rcases hx with rfl | rfl
    · exact HK5.out.keep (World.grownBy_alloc _ _ none) (by simp)
    · exact HJ5.out.keep (World.grownBy_alloc _ _ none) (by simp)) (two_diff (fun g h1 h2 => by
    have a1 := HB1.out g h1
    have a2 := HB2.out g h2
    omega))).mono ?_
  rintro e w6 ⟨rfl, k6⟩
  have HG6 : Hid (w.grownBy w6 none) := Kpt.new (grown_push HG5.out _) k6 (fun x hx => by
    obtain ⟨y, hy, e⟩ := List.mem_filterMap.1 hx
    simp only [List.mem_cons, List.not_mem_nil, or_false] at hy
    rcases hy with rfl | rfl
    · exact (HB1.out x e).1
    · have a2 := HB2.out x e
      have a3 := HG5.out.size
      have a4 := HQW.out
      omega)
  clear k6
  go_wp2
  go_ret
  exact ⟨rfl, HG6.out⟩
end Go.Proofs.YtpceelbphpfciaaGreatDoor
