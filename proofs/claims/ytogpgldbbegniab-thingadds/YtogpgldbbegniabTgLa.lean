/-
  ThingAdds, of every fill of a book, features, marks and thing.
-/
import Derived.Test.YtogpgldbbegniabTgAa
import Derived.Deep.RegionWith
import Derived.RegionTactic
import Derived.ChangeAlike
namespace Go.Proofs.Ytogpgldbbegniab
open Go.RowKit

theorem alloc5_at (w : World) (o o2 o3 o4 : Obj) (cs : Array Value) (t : TypeId) : (((((w.alloc o).alloc o2).alloc o3).alloc o4).alloc (.cells cs t)).heap[w.heap.size + 1 + 1 + 1 + 1]? = some (.cells cs t (0, 0)) := by have := alloc_at ((((w.alloc o).alloc o2).alloc o3).alloc o4) cs t; rwa [World.size_alloc, World.size_alloc, World.size_alloc, World.size_alloc] at this
theorem pick100 (x : Int) (w : World) : Calls Try.prog 5 #[.int .i64 x, .int .i64 100] w fun e w' => (∃ r : Nat, r < 100 ∧ e = .returned (.int .i64 r)) ∧ w' = w := pick_any x 100 w (by decide) (by decide)
theorem fit_next0 (b0 b1 b2 b3 x : Int) : fitK 1 x b1 b2 b3 = (fitK 0 b0 b1 b2 b3 && decide (x ≤ 99)) := by
  unfold fitK
  cases decide (b0 ≤ 99) <;> cases decide (b1 ≤ 99) <;> cases decide (b2 ≤ 99) <;> cases decide (b3 ≤ 99) <;> cases decide (x ≤ 99) <;> rfl
theorem fit_next1 (b0 b1 b2 b3 x : Int) : fitK 2 b0 x b2 b3 = (fitK 1 b0 b1 b2 b3 && decide (x ≤ 99)) := by
  unfold fitK
  cases decide (b0 ≤ 99) <;> cases decide (b1 ≤ 99) <;> cases decide (b2 ≤ 99) <;> cases decide (b3 ≤ 99) <;> cases decide (x ≤ 99) <;> rfl
theorem fit_next2 (b0 b1 b2 b3 x : Int) : fitK 3 b0 b1 x b3 = (fitK 2 b0 b1 b2 b3 && decide (x ≤ 99)) := by
  unfold fitK
  cases decide (b0 ≤ 99) <;> cases decide (b1 ≤ 99) <;> cases decide (b2 ≤ 99) <;> cases decide (b3 ≤ 99) <;> cases decide (x ≤ 99) <;> rfl
theorem fit_next3 (b0 b1 b2 b3 x : Int) : fitK 4 b0 b1 b2 x = (fitK 3 b0 b1 b2 b3 && decide (x ≤ 99)) := by
  unfold fitK
  cases decide (b0 ≤ 99) <;> cases decide (b1 ≤ 99) <;> cases decide (b2 ≤ 99) <;> cases decide (b3 ≤ 99) <;> cases decide (x ≤ 99) <;> rfl
theorem neq_fe2 (a0 a1 a2 a3 a4 : Int) (w : World) : (binOp .neq 30 (.agg #[.int .i64 a0, .int .u8 a1, .int .u16 a2, .int .i64 a3, .int .i64 a4]) (.agg #[.int .i64 a0, .int .u8 a1, .int .u16 a2, .int .i64 a3, .int .i64 a4])).run Try.prog w = .ok (.bool false) w := by
  rw [run_neq_struct, equalIn_fe]; rfl
theorem parts_when {c : Cd} (h : cchk c = 0) : ∀ q ∈ c.ps, 1 ≤ q.wn ∧ q.wn ≤ 6 := fun q hq => by
  have hc : chkPs c.kd c.ps = 0 := by
    unfold cchk at h
    split at h
    · omega
    split at h
    · omega
    split at h
    · omega
    split at h
    · omega
    split at h
    · omega
    exact h
  have hk := chkPs_all _ _ hc q hq
  have hw : ¬ wnt q.wn = 0 := fun e => by
    unfold chk at hk
    rw [if_pos (Or.inl e)] at hk
    omega
  unfold wnt at hw
  split at hw
  · omega
  split at hw
  · omega
  split at hw
  · omega
  exact absurd rfl hw
/-- A list of bools of the call's own. -/
def BsAt (w : World) (d n : Nat) (bs : List Bool) : Prop := w.ownsRow d 4 1 (.slice (some ⟨d, 0, none⟩) n n) n (bs.map Value.bool)
theorem bs_made {w : World} {d n : Nat} (h : w.ownsRow d 4 1 (.slice (some ⟨d, 0, none⟩) n n) n (madeCells (Value.bool false).cells (n * 1)).toList) : BsAt w d n (List.replicate n false) := by
  unfold BsAt
  rw [List.map_replicate]
  rw [Nat.mul_one] at h
  rw [← toList_madeCells_one]
  exact h
theorem BsAt.grow {w w' : World} {d n : Nat} {bs : List Bool} (h : BsAt w d n bs) (g : w.grownBy w' none) : BsAt w' d n bs := ownT_grow h g
theorem BsAt.lt {w : World} {d n : Nat} {bs : List Bool} (h : BsAt w d n bs) : d < w.heap.size := (World.ownsRow.lt h d rfl).2
theorem BsAt.cell {w : World} {d n k : Nat} {bs : List Bool} {b : Bool} (h : BsAt w d n bs) (hb : bs[k]? = some b) (hk : k < n) : w.cell? ⟨d, k, none⟩ = some (.bool b) := by
  rw [World.ownsRow.cellAt h k (by omega), List.getElem?_map, hb]
  rfl
theorem BsAt.free {w : World} {d n : Nat} {bs : List Bool} (h : BsAt w d n bs) (i : Nat) : w.frozen? ⟨d, i, none⟩ = false := World.ownsRow.frozenAt h i
theorem BsAt.set {w : World} {d n : Nat} {bs : List Bool} (h : BsAt w d n bs) (k : Nat) (b : Bool) : BsAt (w.setCell ⟨d, k, none⟩ (.bool b)) d n (bs.set k b) := by
  have := (World.ownsRow.stored h k (.bool b)).1
  unfold BsAt
  rw [List.map_set]
  exact this
theorem own_at1 {w : World} {base e n : Nat} {v : Value} {xs : List Value} (h : w.ownsRow base e 1 v n xs) (h0 : 0 < n) : ∃ g cap, v = .slice (some ⟨g, 0, none⟩) n cap ∧ ∀ (j : Nat) u, xs[j]? = some u → w.cell? ⟨g, j, none⟩ = some u := by
  rcases h.2 with ⟨_, h1⟩ | ⟨g, cap, cur, e1, hb, hh, hc, hm, hs, ht⟩
  · omega
  · subst e1
    refine ⟨g, cap, rfl, fun j u hu => ?_⟩
    have hj : j < n * 1 := by have := (List.getElem?_eq_some_iff.1 hu).1; rw [h.1] at this; exact this
    rw [World.ownsRow.cellAt h j hj]
    exact hu
theorem ownT_other {w w' : World} {base e size n d : Nat} {v : Value} {xs : List Value} (h : w.ownsRow base e size v n xs) (g : w.grownBy w' (some d)) (hd : v.ownBlock ≠ some d) : w'.ownsRow base e size v n xs := World.ownsRow.kept h g (by cases hv : v.ownBlock with | none => exact Or.inl rfl | some y => exact Or.inr (by rw [hv] at hd; exact hd))
theorem tmod_in (a : Int) : InI (a.tmod 1099511627776) := by
  unfold InI
  have h1 := Int.tmod_lt_of_pos a (b := 1099511627776) (by decide)
  have h2 : -1099511627776 < a.tmod 1099511627776 := by
    have := Int.neg_tmod a 1099511627776
    have h3 := Int.tmod_lt_of_pos (-a) (b := 1099511627776) (by decide)
    omega
  omega
set_option maxRecDepth 100000 in
set_option maxHeartbeats 16000000 in
theorem thingAdds_any (vc vm : Value) (op : Bool) (cs : List Ent) (ms : List Mk) (g : Fe) (c0 c1 c2 c3 d0 d1 d2 d3 : Int) (t : Th) (w : World) (F : FiA w vc vm cs ms) : Calls Try.prog 3 #[.agg #[vc, vm, .bool op], fev g, .agg #[.int .i64 c0, .int .i64 c1, .int .i64 c2, .int .i64 c3], .agg #[.int .i64 d0, .int .i64 d1, .int .i64 d2, .int .i64 d3], thv t] w fun e w' => e = .returned (.bool true) ∧ w.grownBy w' none := by
  obtain ⟨ca, ck, rfl, _⟩ := id F.c
  obtain ⟨ma, mk, rfl, _⟩ := id F.m
  obtain ⟨W1, hW1⟩ : ∃ W1, W1 = ((((w.alloc (.cells #[.slice ca cs.length ck, .slice ma ms.length mk, .bool op] 25)).alloc (.cells #[.int .i64 g.ho, .int .u8 g.su, .int .u16 g.tr, .int .i64 g.po, .int .i64 g.he] 30)).alloc (.cells #[.int .i64 c0, .int .i64 c1, .int .i64 c2, .int .i64 c3] 31)).alloc (.cells #[.int .i64 d0, .int .i64 d1, .int .i64 d2, .int .i64 d3] 31)).alloc (.cells #[.int .i64 t.card, .int .i64 t.owner, .int .u8 t.place, .int .i64 t.stamp, .int .i64 t.hurt, .int .i64 t.m0, .int .i64 t.m1, .int .i64 t.m2, .int .i64 t.m3, .int .i64 t.done, .bool t.fresh] 34) := ⟨_, rfl⟩
  have ga := fun (u : World) (x : Obj) => World.grownBy_alloc u x none
  have HG1 : Hid (w.grownBy W1 none) := by rw [hW1]; exact grown_push (grown_push (grown_push (grown_push (ga _ _) _) _) _) _
  have HB0 : Hid (W1.heap[w.heap.size]? = some (.cells #[.slice ca cs.length ck, .slice ma ms.length mk, .bool op] 25 (0, 0))) := by
    rw [hW1]; exact grown_keep (ga _ _) (grown_keep (ga _ _) (grown_keep (ga _ _) (grown_keep (ga _ _) (alloc_at w _ _) (by simp)) (by simp)) (by simp)) (by simp)
  have HB1 : Hid (W1.heap[w.heap.size + 1]? = some (.cells #[.int .i64 g.ho, .int .u8 g.su, .int .u16 g.tr, .int .i64 g.po, .int .i64 g.he] 30 (0, 0))) := by
    rw [hW1]; exact grown_keep (ga _ _) (grown_keep (ga _ _) (grown_keep (ga _ _) (alloc2_at _ _ _ _) (by simp)) (by simp)) (by simp)
  have HB2 : Hid (W1.heap[w.heap.size + 1 + 1]? = some (.cells #[.int .i64 c0, .int .i64 c1, .int .i64 c2, .int .i64 c3] 31 (0, 0))) := by
    rw [hW1]; exact grown_keep (ga _ _) (grown_keep (ga _ _) (alloc3_at _ _ _ _ _) (by simp)) (by simp)
  have HB3 : Hid (W1.heap[w.heap.size + 1 + 1 + 1]? = some (.cells #[.int .i64 d0, .int .i64 d1, .int .i64 d2, .int .i64 d3] 31 (0, 0))) := by rw [hW1]; exact grown_keep (ga _ _) (alloc4_at _ _ _ _ _ _) (by simp)
  have HB4 : Hid (W1.heap[w.heap.size + 1 + 1 + 1 + 1]? = some (.cells #[.int .i64 t.card, .int .i64 t.owner, .int .u8 t.place, .int .i64 t.stamp, .int .i64 t.hurt, .int .i64 t.m0, .int .i64 t.m1, .int .i64 t.m2, .int .i64 t.m3, .int .i64 t.done, .bool t.fresh] 34 (0, 0))) := by rw [hW1]; exact alloc5_at _ _ _ _ _ _ _
  have HZ : Hid (W1.heap.size = w.heap.size + 1 + 1 + 1 + 1 + 1) := by show _ = _; rw [hW1, World.size_alloc, World.size_alloc, World.size_alloc, World.size_alloc, World.size_alloc]
  have HBk := books_any (.slice ca cs.length ck) (.slice ma ms.length mk) op cs ms W1 (F.keep HG1.out)
  obtain ⟨nb, hnb⟩ : ∃ nb, nb = W1.heap.size + 1 := ⟨_, rfl⟩
  rw [← hnb] at HBk
  have HNb : Hid (nb = W1.heap.size + 1) := hnb
  clear hnb F ga
  unfold fev thv
  go_enter Try.func3, Try.ntmps3
  go_upto_region 1 with fail
  rw [← hW1]
  clear hW1
  obtain ⟨n0, h0⟩ : ∃ n0, n0 = w.heap.size := ⟨_, rfl⟩
  have HN0 : Hid (n0 = w.heap.size) := h0
  simp only [← h0] at HB0 HB1 HB2 HB3 HB4 HZ ⊢
  obtain ⟨nF, h1⟩ : ∃ nF, nF = n0 + 1 := ⟨_, rfl⟩
  simp only [← h1] at HB1 HB2 HB3 HB4 HZ ⊢
  obtain ⟨nO, h2⟩ : ∃ nO, nO = nF + 1 := ⟨_, rfl⟩
  simp only [← h2] at HB2 HB3 HB4 HZ ⊢
  obtain ⟨nT, h3⟩ : ∃ nT, nT = nO + 1 := ⟨_, rfl⟩
  simp only [← h3] at HB3 HB4 HZ ⊢
  obtain ⟨nH, h4⟩ : ∃ nH, nH = nT + 1 := ⟨_, rfl⟩
  simp only [← h4] at HB4 HZ ⊢
  have HNs : Hid (nF = n0 + 1 ∧ nO = nF + 1 ∧ nT = nO + 1 ∧ nH = nT + 1) := ⟨h1, h2, h3, h4⟩
  clear h0 h1 h2 h3 h4
  have x0 := block_cell HB0.out 0
  have x1 := block_cell HB0.out 1
  have x2 := block_cell HB0.out 2
  go_wp2_with fail
  refine HBk.mono ?_
  intro e S0 Q2
  unfold BoPost at Q2
  obtain ⟨v, es, fs, p, rfl, P, _, g2⟩ := Q2
  obtain ⟨N, hN⟩ : ∃ N, N = S0.heap.size := ⟨_, rfl⟩
  have HBo : Hid (Book (fun k => okB nb k ∧ k < N) S0 nb es p) := by rw [hN]; exact book_cap P.book
  have HMd : Hid (MkD p) := P.mkd
  have HN : Hid (N = S0.heap.size) := hN
  have HNl : Hid (W1.heap.size ≤ N ∧ nb < N) := by show _ ∧ _; rw [hN]; exact ⟨g2.size, P.book.lt⟩
  have HG2 : Hid (w.grownBy S0 none) := grown_trans HG1.out g2
  have HC1 : Hid (S0.heap[nF]? = some (.cells #[.int .i64 g.ho, .int .u8 g.su, .int .u16 g.tr, .int .i64 g.po, .int .i64 g.he] 30 (0, 0))) := grown_keep g2 HB1.out (by simp)
  have HC2 : Hid (S0.heap[nO]? = some (.cells #[.int .i64 c0, .int .i64 c1, .int .i64 c2, .int .i64 c3] 31 (0, 0))) := grown_keep g2 HB2.out (by simp)
  have HC3 : Hid (S0.heap[nT]? = some (.cells #[.int .i64 d0, .int .i64 d1, .int .i64 d2, .int .i64 d3] 31 (0, 0))) := grown_keep g2 HB3.out (by simp)
  have HC4 : Hid (S0.heap[nH]? = some (.cells #[.int .i64 t.card, .int .i64 t.owner, .int .u8 t.place, .int .i64 t.stamp, .int .i64 t.hurt, .int .i64 t.m0, .int .i64 t.m1, .int .i64 t.m2, .int .i64 t.m3, .int .i64 t.done, .bool t.fresh] 34 (0, 0))) := grown_keep g2 HB4.out (by simp)
  clear HBk P g2 hN HB0 HB1 HB2 HB3 HB4 x0 x1 x2 HG1
  have y3 := block_cell HC1.out 3
  have y4 := block_cell HC1.out 4
  have yf := fun i => block_free HC1.out i
  obtain ⟨po, hpo⟩ : ∃ po, po = g.po.tmod 1099511627776 := ⟨_, rfl⟩
  obtain ⟨he, hhe⟩ : ∃ he, he = g.he.tmod 1099511627776 := ⟨_, rfl⟩
  have HIn : Hid (InI po ∧ InI he) := by show _ ∧ _; rw [hpo, hhe]; exact ⟨tmod_in _, tmod_in _⟩
  have HPo : Hid (po = g.po.tmod 1099511627776 ∧ he = g.he.tmod 1099511627776) := ⟨hpo, hhe⟩
  clear hpo hhe
  go_upto_region 3 with fail
  simp only [← HPo.out.1, ← HPo.out.2]
  clear HPo y3 y4 yf
  obtain ⟨f, hf⟩ : ∃ f : Fe, f = ⟨g.ho, g.su, g.tr, po, he⟩ := ⟨_, rfl⟩
  obtain ⟨S1, hS1⟩ : ∃ S1, S1 = (S0.setCell ⟨nF, 3, none⟩ (.int .i64 po)).setCell ⟨nF, 4, none⟩ (.int .i64 he) := ⟨_, rfl⟩
  have gS1 : S0.grownBy S1 (some nF) := by rw [hS1]; exact (grown_set _ _ _ _).trans (grown_set _ _ _ _)
  have HSz : Hid (S1.heap.size = N) := by show _ = _; rw [hS1, HN.out]; simp
  have HGS : Hid (w.grownBy S1 none) := grown_own HG2.out gS1 (fun y e => by cases e; have := HNs.out; have := HN0.out; omega)
  have HL : Hid (nF < nb ∧ nO < nb ∧ nT < nb ∧ nH < nb) := by have a := HNs.out; have b := HZ.out; have c := HNb.out; show _ ∧ _; omega
  have HS1 : Hid (Book (fun k => okB nb k ∧ k < N) S1 nb es p) := HBo.out.keepR gS1 (fun q => by injection q with q; have := HL.out; omega) (fun k hk q => by injection q with q; have h1 := hk.1; unfold okB at h1; have := HL.out; omega)
  have HF1 : Hid (S1.heap[nF]? = some (.cells #[.int .i64 f.ho, .int .u8 f.su, .int .u16 f.tr, .int .i64 f.po, .int .i64 f.he] 30 (0, 0))) := by
    rw [hS1, hf]
    exact block_set (block_set HC1.out 3 (.int .i64 po)) 4 (.int .i64 he)
  have HIf : Hid (InI f.po ∧ InI f.he) := by rw [hf]; exact HIn.out
  have HO1 : Hid (S1.heap[nO]? = some (.cells #[.int .i64 c0, .int .i64 c1, .int .i64 c2, .int .i64 c3] 31 (0, 0))) := grown_keep gS1 HC2.out (fun q => by injection q with q; have := HNs.out; omega)
  have HT1 : Hid (S1.heap[nT]? = some (.cells #[.int .i64 d0, .int .i64 d1, .int .i64 d2, .int .i64 d3] 31 (0, 0))) := grown_keep gS1 HC3.out (fun q => by injection q with q; have := HNs.out; omega)
  have HH1 : Hid (S1.heap[nH]? = some (.cells #[.int .i64 t.card, .int .i64 t.owner, .int .u8 t.place, .int .i64 t.stamp, .int .i64 t.hurt, .int .i64 t.m0, .int .i64 t.m1, .int .i64 t.m2, .int .i64 t.m3, .int .i64 t.done, .bool t.fresh] 34 (0, 0))) := grown_keep gS1 HC4.out (fun q => by injection q with q; have := HNs.out; omega)
  rw [← hS1]
  clear hS1 gS1 HC1 HC2 HC3 HC4 HBo HG2 HIn hf
  obtain ⟨W2, hW2⟩ : ∃ W2, W2 = S1.alloc (.cells #[.int .i64 0, .int .i64 0, .int .i64 0, .int .i64 0] 31) := ⟨_, rfl⟩
  obtain ⟨nB, hnB⟩ : ∃ nB, nB = S1.heap.size := ⟨_, rfl⟩
  have HnB : Hid (nB = N) := by show _ = _; rw [hnB, HSz.out]
  have ga := World.grownBy_alloc S1 (.cells #[.int .i64 0, .int .i64 0, .int .i64 0, .int .i64 0] 31) none
  have HA2 : Hid (AdS (fun k => okB nb k ∧ k < N) w W2 nF nO nT nB nH nb es p f t c0 c1 c2 c3 d0 d1 d2 d3 0 0 0 0) := by
    rw [← hW2] at ga
    have a := HNs.out
    have b := HL.out
    have c := HNl.out
    have d := HnB.out
    have e := HN0.out
    refine ⟨grown_trans HGS.out ga, HS1.out.keep ga, grown_keep ga HF1.out (by simp), grown_keep ga HO1.out (by simp), grown_keep ga HT1.out (by simp), ?_, grown_keep ga HH1.out (by simp), ⟨by omega, by omega, by omega⟩, ⟨by omega, by omega, by omega⟩, ⟨by omega, by omega, by omega⟩, fun k hk => ?_⟩
    · rw [hW2, hnB]; exact alloc_at _ _ _
    · have h1 := hk.1
      have h2 := hk.2
      unfold okB at h1
      exact ⟨by omega, by omega, by omega⟩
  go_upto_region 4 with fail
  rw [← hW2]
  simp only [← hnB]
  clear hW2 hnB ga HSz HGS HS1 HF1 HO1 HT1 HH1 HnB HN HNl HL HNs HZ HNb
  obtain ⟨ok, hok⟩ : ∃ ok : Nat → Prop, ok = (fun k => okB nb k ∧ k < N) := ⟨_, rfl⟩
  rw [← hok] at HA2
  clear hok HN0
  go_upto_block 0 with fail
  go_cut [15, 16] from 47 to 78 (fun x15 _ wc => ∃ o0 o1 o2 o3 t0 t1 t2 t3 b0 b1 b2 b3 : Int, x15 = .bool (fitK 4 b0 b1 b2 b3) ∧ AdR 4 o0 o1 o2 o3 t0 t1 t2 t3 b0 b1 b2 b3 ∧ AdS ok w wc nF nO nT nB nH nb es p f t o0 o1 o2 o3 t0 t1 t2 t3 b0 b1 b2 b3)
  case first =>
    go_wp2_with fail
    go_loopw [15, 16] (fun x15 x16 wr => ∃ (k : Nat) (o0 o1 o2 o3 t0 t1 t2 t3 b0 b1 b2 b3 : Int), k ≤ 4 ∧ x16 = .int .i64 (k : Int) ∧ x15 = .bool (fitK k b0 b1 b2 b3) ∧ Hid (AdR k o0 o1 o2 o3 t0 t1 t2 t3 b0 b1 b2 b3) ∧ Hid (AdS ok w wr nF nO nT nB nH nb es p f t o0 o1 o2 o3 t0 t1 t2 t3 b0 b1 b2 b3)) (fun _ x16 _ => 4 - (intOf x16).toNat)
    case atStart => exact ⟨0, _, _, _, _, _, _, _, _, _, _, _, _, by decide, rfl, rfl, ⟨fun h => absurd h (by decide), fun h => absurd h (by decide), fun h => absurd h (by decide), fun h => absurd h (by decide)⟩, HA2⟩
    case round =>
      obtain ⟨k, o0, o1, o2, o3, t0, t1, t2, t3, b0, b1, b2, b3, hk, rfl, rfl, HR, HS⟩ := hrel
      clear HA2
      obtain ⟨U, hU⟩ : ∃ U, U = wr := ⟨_, rfl⟩
      subst hU
      rcases (show k = 0 ∨ k = 1 ∨ k = 2 ∨ k = 3 ∨ k = 4 from by omega) with rfl | rfl | rfl | rfl | rfl
      · obtain ⟨fb, hfb⟩ : ∃ fb, fb = fitK 0 b0 b1 b2 b3 := ⟨_, rfl⟩
        rw [← hfb]
        have HFb : Hid (fb = fitK 0 b0 b1 b2 b3) := hfb
        clear hfb
        go_upto_region 8 with fail
        go_cut [62] from 51 to 61 (fun _ wc => ∃ r s : Nat, r < 100 ∧ s < 100 ∧ AdS ok w wc nF nO nT nB nH nb es p f t (r : Int) o1 o2 o3 (s : Int) t1 t2 t3 b0 b1 b2 b3)
        case first =>
          have HP1 := pick100 o0
          have HP2 := pick100 t0
          have u0 := block_cell HS.out.O 0
          have v0 := block_cell HS.out.T 0
          have uf := fun i => block_free HS.out.O i
          have vf := fun i => block_free HS.out.T i
          have hne : ¬ nO = nT := HS.out.ne.1
          have hne' : ¬ nT = nO := fun e => HS.out.ne.1 e.symm
          go_region_with (first | (go_at_call 5; refine (HP1 _).mono ?_; rintro e w1 ⟨⟨r1, hr1, rfl⟩, hw1⟩; subst hw1; clear HP1) | (go_at_call 5; refine (HP2 _).mono ?_; rintro e w1 ⟨⟨r2, hr2, rfl⟩, hw1⟩; subst hw1; clear HP2) | fail)
          all_goals
            go_wp2_with fail
            go_meet
            exact ⟨r1, r2, hr1, hr2, ((HS.out.setO0 _).setT0 _).grow (grown_drew _)⟩
        case rest =>
          obtain ⟨r, s, hr, hs, hA⟩ := hcut
          obtain ⟨V, hV⟩ : ∃ V, V = wc := ⟨_, rfl⟩
          subst hV
          have HA : Hid (AdS ok w V nF nO nT nB nH nb es p f t (r : Int) o1 o2 o3 (s : Int) t1 t2 t3 b0 b1 b2 b3) := hA
          have HrO : Hid (okc (r : Int) = true) := okc_nat hr
          have HsO : Hid (okc (s : Int) = true) := okc_nat hs
          have HR2 : Hid (AdR 1 (r : Int) o1 o2 o3 (s : Int) t1 t2 t3 ((r : Int) + (s : Int)) b1 b2 b3) := by have q := HR.out; exact ⟨fun _ => ⟨HrO.out, HsO.out, rfl⟩, fun h => absurd h (by decide), fun h => absurd h (by decide), fun h => absurd h (by decide)⟩
          have hw : wrap64 ((r : Int) + (s : Int)) = (r : Int) + (s : Int) := by unfold wrap64; omega
          clear hA HS HR hr hs
          have u0 := block_cell HA.out.O 0
          have v0 := block_cell HA.out.T 0
          have z0 := block_cell HA.out.B 0
          have zf := fun i => block_free HA.out.B i
          go_wp2_with fail
          go_region
          obtain ⟨X, hX⟩ : ∃ X, X = (V.setCell ⟨nB, 0, none⟩ (.int .i64 ((r : Int) + (s : Int)))).drew := ⟨_, rfl⟩
          have HX : Hid (AdS ok w X nF nO nT nB nH nb es p f t (r : Int) o1 o2 o3 (s : Int) t1 t2 t3 ((r : Int) + (s : Int)) b1 b2 b3) := by rw [hX]; exact (HA.out.setB0 _).grow (grown_drew _)
          have HFn : Hid (fitK 1 ((r : Int) + (s : Int)) b1 b2 b3 = (fb && decide ((r : Int) + (s : Int) ≤ 99))) := by show _ = _; rw [HFb.out]; exact fit_next0 _ _ _ _ _
          rw [← hX]
          clear hX HA hw u0 v0 z0 zf HFb
          have z0 := block_cell HX.out.B 0
          cases fb with
          | false =>
            go_wp2_with fail
            go_roundw
            case rel => exact ⟨1, (r : Int), o1, o2, o3, (s : Int), t1, t2, t3, ((r : Int) + (s : Int)), b1, b2, b3, by decide, rfl, by rw [HFn.out]; rfl, HR2, HX⟩
            case measure => simp [intOf]
          | true =>
            by_cases h99 : (r : Int) + (s : Int) ≤ 99
            · have HF2 : Hid (fitK 1 ((r : Int) + (s : Int)) b1 b2 b3 = true) := by show _ = _; rw [HFn.out, decide_eq_true h99]; rfl
              clear HFn
              go_wp2_with fail
              go_roundw
              case rel => exact ⟨1, (r : Int), o1, o2, o3, (s : Int), t1, t2, t3, ((r : Int) + (s : Int)), b1, b2, b3, by decide, rfl, by rw [HF2.out], HR2, HX⟩
              case measure => simp [intOf]
            · have HF2 : Hid (fitK 1 ((r : Int) + (s : Int)) b1 b2 b3 = false) := by show _ = _; rw [HFn.out, decide_eq_false h99]; rfl
              clear HFn
              go_wp2_with fail
              go_roundw
              case rel => exact ⟨1, (r : Int), o1, o2, o3, (s : Int), t1, t2, t3, ((r : Int) + (s : Int)), b1, b2, b3, by decide, rfl, by rw [HF2.out], HR2, HX⟩
              case measure => simp [intOf]
      · obtain ⟨fb, hfb⟩ : ∃ fb, fb = fitK 1 b0 b1 b2 b3 := ⟨_, rfl⟩
        rw [← hfb]
        have HFb : Hid (fb = fitK 1 b0 b1 b2 b3) := hfb
        clear hfb
        go_upto_region 8 with fail
        go_cut [62] from 51 to 61 (fun _ wc => ∃ r s : Nat, r < 100 ∧ s < 100 ∧ AdS ok w wc nF nO nT nB nH nb es p f t o0 (r : Int) o2 o3 t0 (s : Int) t2 t3 b0 b1 b2 b3)
        case first =>
          have HP1 := pick100 o1
          have HP2 := pick100 t1
          have u0 := block_cell HS.out.O 1
          have v0 := block_cell HS.out.T 1
          have uf := fun i => block_free HS.out.O i
          have vf := fun i => block_free HS.out.T i
          have hne : ¬ nO = nT := HS.out.ne.1
          have hne' : ¬ nT = nO := fun e => HS.out.ne.1 e.symm
          go_region_with (first | (go_at_call 5; refine (HP1 _).mono ?_; rintro e w1 ⟨⟨r1, hr1, rfl⟩, hw1⟩; subst hw1; clear HP1) | (go_at_call 5; refine (HP2 _).mono ?_; rintro e w1 ⟨⟨r2, hr2, rfl⟩, hw1⟩; subst hw1; clear HP2) | fail)
          all_goals
            go_wp2_with fail
            go_meet
            exact ⟨r1, r2, hr1, hr2, ((HS.out.setO1 _).setT1 _).grow (grown_drew _)⟩
        case rest =>
          obtain ⟨r, s, hr, hs, hA⟩ := hcut
          obtain ⟨V, hV⟩ : ∃ V, V = wc := ⟨_, rfl⟩
          subst hV
          have HA : Hid (AdS ok w V nF nO nT nB nH nb es p f t o0 (r : Int) o2 o3 t0 (s : Int) t2 t3 b0 b1 b2 b3) := hA
          have HrO : Hid (okc (r : Int) = true) := okc_nat hr
          have HsO : Hid (okc (s : Int) = true) := okc_nat hs
          have HR2 : Hid (AdR 2 o0 (r : Int) o2 o3 t0 (s : Int) t2 t3 b0 ((r : Int) + (s : Int)) b2 b3) := by have q := HR.out; exact ⟨fun _ => q.1 (by decide), fun _ => ⟨HrO.out, HsO.out, rfl⟩, fun h => absurd h (by decide), fun h => absurd h (by decide)⟩
          have hw : wrap64 ((r : Int) + (s : Int)) = (r : Int) + (s : Int) := by unfold wrap64; omega
          clear hA HS HR hr hs
          have u0 := block_cell HA.out.O 1
          have v0 := block_cell HA.out.T 1
          have z0 := block_cell HA.out.B 1
          have zf := fun i => block_free HA.out.B i
          go_wp2_with fail
          go_region
          obtain ⟨X, hX⟩ : ∃ X, X = (V.setCell ⟨nB, 1, none⟩ (.int .i64 ((r : Int) + (s : Int)))).drew := ⟨_, rfl⟩
          have HX : Hid (AdS ok w X nF nO nT nB nH nb es p f t o0 (r : Int) o2 o3 t0 (s : Int) t2 t3 b0 ((r : Int) + (s : Int)) b2 b3) := by rw [hX]; exact (HA.out.setB1 _).grow (grown_drew _)
          have HFn : Hid (fitK 2 b0 ((r : Int) + (s : Int)) b2 b3 = (fb && decide ((r : Int) + (s : Int) ≤ 99))) := by show _ = _; rw [HFb.out]; exact fit_next1 _ _ _ _ _
          rw [← hX]
          clear hX HA hw u0 v0 z0 zf HFb
          have z0 := block_cell HX.out.B 1
          cases fb with
          | false =>
            go_wp2_with fail
            go_roundw
            case rel => exact ⟨2, o0, (r : Int), o2, o3, t0, (s : Int), t2, t3, b0, ((r : Int) + (s : Int)), b2, b3, by decide, rfl, by rw [HFn.out]; rfl, HR2, HX⟩
            case measure => simp [intOf]
          | true =>
            by_cases h99 : (r : Int) + (s : Int) ≤ 99
            · have HF2 : Hid (fitK 2 b0 ((r : Int) + (s : Int)) b2 b3 = true) := by show _ = _; rw [HFn.out, decide_eq_true h99]; rfl
              clear HFn
              go_wp2_with fail
              go_roundw
              case rel => exact ⟨2, o0, (r : Int), o2, o3, t0, (s : Int), t2, t3, b0, ((r : Int) + (s : Int)), b2, b3, by decide, rfl, by rw [HF2.out], HR2, HX⟩
              case measure => simp [intOf]
            · have HF2 : Hid (fitK 2 b0 ((r : Int) + (s : Int)) b2 b3 = false) := by show _ = _; rw [HFn.out, decide_eq_false h99]; rfl
              clear HFn
              go_wp2_with fail
              go_roundw
              case rel => exact ⟨2, o0, (r : Int), o2, o3, t0, (s : Int), t2, t3, b0, ((r : Int) + (s : Int)), b2, b3, by decide, rfl, by rw [HF2.out], HR2, HX⟩
              case measure => simp [intOf]
      · obtain ⟨fb, hfb⟩ : ∃ fb, fb = fitK 2 b0 b1 b2 b3 := ⟨_, rfl⟩
        rw [← hfb]
        have HFb : Hid (fb = fitK 2 b0 b1 b2 b3) := hfb
        clear hfb
        go_upto_region 8 with fail
        go_cut [62] from 51 to 61 (fun _ wc => ∃ r s : Nat, r < 100 ∧ s < 100 ∧ AdS ok w wc nF nO nT nB nH nb es p f t o0 o1 (r : Int) o3 t0 t1 (s : Int) t3 b0 b1 b2 b3)
        case first =>
          have HP1 := pick100 o2
          have HP2 := pick100 t2
          have u0 := block_cell HS.out.O 2
          have v0 := block_cell HS.out.T 2
          have uf := fun i => block_free HS.out.O i
          have vf := fun i => block_free HS.out.T i
          have hne : ¬ nO = nT := HS.out.ne.1
          have hne' : ¬ nT = nO := fun e => HS.out.ne.1 e.symm
          go_region_with (first | (go_at_call 5; refine (HP1 _).mono ?_; rintro e w1 ⟨⟨r1, hr1, rfl⟩, hw1⟩; subst hw1; clear HP1) | (go_at_call 5; refine (HP2 _).mono ?_; rintro e w1 ⟨⟨r2, hr2, rfl⟩, hw1⟩; subst hw1; clear HP2) | fail)
          all_goals
            go_wp2_with fail
            go_meet
            exact ⟨r1, r2, hr1, hr2, ((HS.out.setO2 _).setT2 _).grow (grown_drew _)⟩
        case rest =>
          obtain ⟨r, s, hr, hs, hA⟩ := hcut
          obtain ⟨V, hV⟩ : ∃ V, V = wc := ⟨_, rfl⟩
          subst hV
          have HA : Hid (AdS ok w V nF nO nT nB nH nb es p f t o0 o1 (r : Int) o3 t0 t1 (s : Int) t3 b0 b1 b2 b3) := hA
          have HrO : Hid (okc (r : Int) = true) := okc_nat hr
          have HsO : Hid (okc (s : Int) = true) := okc_nat hs
          have HR2 : Hid (AdR 3 o0 o1 (r : Int) o3 t0 t1 (s : Int) t3 b0 b1 ((r : Int) + (s : Int)) b3) := by have q := HR.out; exact ⟨fun _ => q.1 (by decide), fun _ => q.2.1 (by decide), fun _ => ⟨HrO.out, HsO.out, rfl⟩, fun h => absurd h (by decide)⟩
          have hw : wrap64 ((r : Int) + (s : Int)) = (r : Int) + (s : Int) := by unfold wrap64; omega
          clear hA HS HR hr hs
          have u0 := block_cell HA.out.O 2
          have v0 := block_cell HA.out.T 2
          have z0 := block_cell HA.out.B 2
          have zf := fun i => block_free HA.out.B i
          go_wp2_with fail
          go_region
          obtain ⟨X, hX⟩ : ∃ X, X = (V.setCell ⟨nB, 2, none⟩ (.int .i64 ((r : Int) + (s : Int)))).drew := ⟨_, rfl⟩
          have HX : Hid (AdS ok w X nF nO nT nB nH nb es p f t o0 o1 (r : Int) o3 t0 t1 (s : Int) t3 b0 b1 ((r : Int) + (s : Int)) b3) := by rw [hX]; exact (HA.out.setB2 _).grow (grown_drew _)
          have HFn : Hid (fitK 3 b0 b1 ((r : Int) + (s : Int)) b3 = (fb && decide ((r : Int) + (s : Int) ≤ 99))) := by show _ = _; rw [HFb.out]; exact fit_next2 _ _ _ _ _
          rw [← hX]
          clear hX HA hw u0 v0 z0 zf HFb
          have z0 := block_cell HX.out.B 2
          cases fb with
          | false =>
            go_wp2_with fail
            go_roundw
            case rel => exact ⟨3, o0, o1, (r : Int), o3, t0, t1, (s : Int), t3, b0, b1, ((r : Int) + (s : Int)), b3, by decide, rfl, by rw [HFn.out]; rfl, HR2, HX⟩
            case measure => simp [intOf]
          | true =>
            by_cases h99 : (r : Int) + (s : Int) ≤ 99
            · have HF2 : Hid (fitK 3 b0 b1 ((r : Int) + (s : Int)) b3 = true) := by show _ = _; rw [HFn.out, decide_eq_true h99]; rfl
              clear HFn
              go_wp2_with fail
              go_roundw
              case rel => exact ⟨3, o0, o1, (r : Int), o3, t0, t1, (s : Int), t3, b0, b1, ((r : Int) + (s : Int)), b3, by decide, rfl, by rw [HF2.out], HR2, HX⟩
              case measure => simp [intOf]
            · have HF2 : Hid (fitK 3 b0 b1 ((r : Int) + (s : Int)) b3 = false) := by show _ = _; rw [HFn.out, decide_eq_false h99]; rfl
              clear HFn
              go_wp2_with fail
              go_roundw
              case rel => exact ⟨3, o0, o1, (r : Int), o3, t0, t1, (s : Int), t3, b0, b1, ((r : Int) + (s : Int)), b3, by decide, rfl, by rw [HF2.out], HR2, HX⟩
              case measure => simp [intOf]
      · obtain ⟨fb, hfb⟩ : ∃ fb, fb = fitK 3 b0 b1 b2 b3 := ⟨_, rfl⟩
        rw [← hfb]
        have HFb : Hid (fb = fitK 3 b0 b1 b2 b3) := hfb
        clear hfb
        go_upto_region 8 with fail
        go_cut [62] from 51 to 61 (fun _ wc => ∃ r s : Nat, r < 100 ∧ s < 100 ∧ AdS ok w wc nF nO nT nB nH nb es p f t o0 o1 o2 (r : Int) t0 t1 t2 (s : Int) b0 b1 b2 b3)
        case first =>
          have HP1 := pick100 o3
          have HP2 := pick100 t3
          have u0 := block_cell HS.out.O 3
          have v0 := block_cell HS.out.T 3
          have uf := fun i => block_free HS.out.O i
          have vf := fun i => block_free HS.out.T i
          have hne : ¬ nO = nT := HS.out.ne.1
          have hne' : ¬ nT = nO := fun e => HS.out.ne.1 e.symm
          go_region_with (first | (go_at_call 5; refine (HP1 _).mono ?_; rintro e w1 ⟨⟨r1, hr1, rfl⟩, hw1⟩; subst hw1; clear HP1) | (go_at_call 5; refine (HP2 _).mono ?_; rintro e w1 ⟨⟨r2, hr2, rfl⟩, hw1⟩; subst hw1; clear HP2) | fail)
          all_goals
            go_wp2_with fail
            go_meet
            exact ⟨r1, r2, hr1, hr2, ((HS.out.setO3 _).setT3 _).grow (grown_drew _)⟩
        case rest =>
          obtain ⟨r, s, hr, hs, hA⟩ := hcut
          obtain ⟨V, hV⟩ : ∃ V, V = wc := ⟨_, rfl⟩
          subst hV
          have HA : Hid (AdS ok w V nF nO nT nB nH nb es p f t o0 o1 o2 (r : Int) t0 t1 t2 (s : Int) b0 b1 b2 b3) := hA
          have HrO : Hid (okc (r : Int) = true) := okc_nat hr
          have HsO : Hid (okc (s : Int) = true) := okc_nat hs
          have HR2 : Hid (AdR 4 o0 o1 o2 (r : Int) t0 t1 t2 (s : Int) b0 b1 b2 ((r : Int) + (s : Int))) := by have q := HR.out; exact ⟨fun _ => q.1 (by decide), fun _ => q.2.1 (by decide), fun _ => q.2.2.1 (by decide), fun _ => ⟨HrO.out, HsO.out, rfl⟩⟩
          have hw : wrap64 ((r : Int) + (s : Int)) = (r : Int) + (s : Int) := by unfold wrap64; omega
          clear hA HS HR hr hs
          have u0 := block_cell HA.out.O 3
          have v0 := block_cell HA.out.T 3
          have z0 := block_cell HA.out.B 3
          have zf := fun i => block_free HA.out.B i
          go_wp2_with fail
          go_region
          obtain ⟨X, hX⟩ : ∃ X, X = (V.setCell ⟨nB, 3, none⟩ (.int .i64 ((r : Int) + (s : Int)))).drew := ⟨_, rfl⟩
          have HX : Hid (AdS ok w X nF nO nT nB nH nb es p f t o0 o1 o2 (r : Int) t0 t1 t2 (s : Int) b0 b1 b2 ((r : Int) + (s : Int))) := by rw [hX]; exact (HA.out.setB3 _).grow (grown_drew _)
          have HFn : Hid (fitK 4 b0 b1 b2 ((r : Int) + (s : Int)) = (fb && decide ((r : Int) + (s : Int) ≤ 99))) := by show _ = _; rw [HFb.out]; exact fit_next3 _ _ _ _ _
          rw [← hX]
          clear hX HA hw u0 v0 z0 zf HFb
          have z0 := block_cell HX.out.B 3
          cases fb with
          | false =>
            go_wp2_with fail
            go_roundw
            case rel => exact ⟨4, o0, o1, o2, (r : Int), t0, t1, t2, (s : Int), b0, b1, b2, ((r : Int) + (s : Int)), by decide, rfl, by rw [HFn.out]; rfl, HR2, HX⟩
            case measure => simp [intOf]
          | true =>
            by_cases h99 : (r : Int) + (s : Int) ≤ 99
            · have HF2 : Hid (fitK 4 b0 b1 b2 ((r : Int) + (s : Int)) = true) := by show _ = _; rw [HFn.out, decide_eq_true h99]; rfl
              clear HFn
              go_wp2_with fail
              go_roundw
              case rel => exact ⟨4, o0, o1, o2, (r : Int), t0, t1, t2, (s : Int), b0, b1, b2, ((r : Int) + (s : Int)), by decide, rfl, by rw [HF2.out], HR2, HX⟩
              case measure => simp [intOf]
            · have HF2 : Hid (fitK 4 b0 b1 b2 ((r : Int) + (s : Int)) = false) := by show _ = _; rw [HFn.out, decide_eq_false h99]; rfl
              clear HFn
              go_wp2_with fail
              go_roundw
              case rel => exact ⟨4, o0, o1, o2, (r : Int), t0, t1, t2, (s : Int), b0, b1, b2, ((r : Int) + (s : Int)), by decide, rfl, by rw [HF2.out], HR2, HX⟩
              case measure => simp [intOf]
      · obtain ⟨fb, hfb⟩ : ∃ fb, fb = fitK 4 b0 b1 b2 b3 := ⟨_, rfl⟩
        rw [← hfb]
        have HFb : Hid (fb = fitK 4 b0 b1 b2 b3) := hfb
        clear hfb
        go_wp2_with fail
        go_meet
        case rel => exact ⟨o0, o1, o2, o3, t0, t1, t2, t3, b0, b1, b2, b3, by rw [HFb.out], HR.out, HS.out⟩
  case rest =>
    obtain ⟨o0, o1, o2, o3, t0, t1, t2, t3, b0, b1, b2, b3, rfl, hR, hS⟩ := hcut
    obtain ⟨V0, hV⟩ : ∃ V, V = wc := ⟨_, rfl⟩
    subst hV
    have HS : Hid (AdS ok w V0 nF nO nT nB nH nb es p f t o0 o1 o2 o3 t0 t1 t2 t3 b0 b1 b2 b3) := hS
    have HR : Hid (AdR 4 o0 o1 o2 o3 t0 t1 t2 t3 b0 b1 b2 b3) := hR
    have HOk : Hid (okcs o0 o1 o2 o3 = true ∧ okcs t0 t1 t2 t3 = true ∧ okcs b0 b1 b2 b3 = fitK 4 b0 b1 b2 b3) := ⟨(adR_one hR).1, (adR_one hR).2, fit_okcs hR⟩
    have HSum : Hid (b0 = o0 + t0 ∧ b1 = o1 + t1 ∧ b2 = o2 + t2 ∧ b3 = o3 + t3) := ⟨(hR.1 (by decide)).2.2, (hR.2.1 (by decide)).2.2, (hR.2.2.1 (by decide)).2.2, (hR.2.2.2 (by decide)).2.2⟩
    obtain ⟨ft, hft⟩ : ∃ ft, ft = fitK 4 b0 b1 b2 b3 := ⟨_, rfl⟩
    rw [← hft] at HOk ⊢
    clear hR hS hft HR HA2
    -- the four calls
    have HM1 := marked_lit ok nb es p f 0 0 0 0 V0 HS.out.bk ⟨f.ho, f.su, f.tr, max f.po 0, f.he⟩ 0 (by
      unfold mdF mkdF
      rw [if_pos (by decide), addP_none HIf.out.1, addH_none HIf.out.2, low0_max]) rfl
    unfold fev at HM1
    simp only at HM1
    obtain ⟨yp, hyp⟩ : ∃ yp, yp = low0 (addP f.po (zs p o0 o1 o2 o3)) := ⟨_, rfl⟩
    obtain ⟨yh, hyh⟩ : ∃ yh, yh = addH f.he (zs p o0 o1 o2 o3) := ⟨_, rfl⟩
    have HYp : Hid (mkdF p f o0 o1 o2 o3 = ⟨f.ho, f.su, f.tr, yp, yh⟩) := by show _ = _; unfold mkdF; rw [hyp, hyh]
    have HY0 : Hid (0 ≤ yp) := by show 0 ≤ _; rw [hyp, low0_max]; omega
    have HM2 := fun (X : World) (k : V0.grownBy X none) => marked_lit ok nb es p f o0 o1 o2 o3 X (HS.out.bk.keep k) ⟨f.ho, f.su, f.tr, yp, yh⟩ 0 (by unfold mdF; rw [if_pos HOk.out.1]; exact HYp.out) (by unfold mdE; rw [if_pos HOk.out.1])
    unfold fev at HM2
    simp only at HM2
    clear hyp hyh
    obtain ⟨zp, hzp⟩ : ∃ zp, zp = low0 (addP yp (zs p t0 t1 t2 t3)) := ⟨_, rfl⟩
    obtain ⟨zh, hzh⟩ : ∃ zh, zh = addH yh (zs p t0 t1 t2 t3) := ⟨_, rfl⟩
    have HZp : Hid (mkdF p ⟨f.ho, f.su, f.tr, yp, yh⟩ t0 t1 t2 t3 = ⟨f.ho, f.su, f.tr, zp, zh⟩) := by show _ = _; unfold mkdF; rw [hzp, hzh]
    have HM3 := fun (X : World) (k : V0.grownBy X none) => marked_lit ok nb es p ⟨f.ho, f.su, f.tr, yp, yh⟩ t0 t1 t2 t3 X (HS.out.bk.keep k) ⟨f.ho, f.su, f.tr, zp, zh⟩ 0 (by unfold mdF; rw [if_pos HOk.out.2.1]; exact HZp.out) (by unfold mdE; rw [if_pos HOk.out.2.1])
    unfold fev at HM3
    simp only at HM3
    clear hzp hzh
    obtain ⟨⟨q0, q1, q2, q3, q4⟩, hq⟩ : ∃ q, q = mdF p f b0 b1 b2 b3 := ⟨_, rfl⟩
    obtain ⟨qe, hqe⟩ : ∃ qe, qe = mdE b0 b1 b2 b3 := ⟨_, rfl⟩
    have HQ : Hid (ft = true → mkdF p f b0 b1 b2 b3 = ⟨q0, q1, q2, q3, q4⟩) := fun h => by rw [hq]; unfold mdF; rw [if_pos (by rw [HOk.out.2.2]; exact h)]
    have HQe : Hid (qe = if ft = true then 0 else 2) := by show _ = _; rw [hqe]; unfold mdE; rw [HOk.out.2.2]
    have HM4 := fun (X : World) (k : V0.grownBy X none) => marked_lit ok nb es p f b0 b1 b2 b3 X (HS.out.bk.keep k) ⟨q0, q1, q2, q3, q4⟩ qe hq.symm hqe.symm
    unfold fev at HM4
    simp only at HM4
    clear hq hqe
    have HK0 : Hid (V0.grownBy V0 none) := grown_refl _ _
    have f0 := HK0.out.cell (block_cell HS.out.F 0) (by simp)
    have f1 := HK0.out.cell (block_cell HS.out.F 1) (by simp)
    have f2 := HK0.out.cell (block_cell HS.out.F 2) (by simp)
    have f3 := HK0.out.cell (block_cell HS.out.F 3) (by simp)
    have f4 := HK0.out.cell (block_cell HS.out.F 4) (by simp)
    go_wp2_with fail
    refine HM1.mono ?_
    rintro e w1 ⟨rfl, g1⟩
    obtain ⟨V1, hV1⟩ : ∃ V1, V1 = w1.alloc (.cells #[.int .i64 f.ho, .int .u8 f.su, .int .u16 f.tr, .int .i64 (max f.po 0), .int .i64 f.he] 30) := ⟨_, rfl⟩
    have HD1 : Hid (V0.grownBy V1 none) := by rw [hV1]; exact grown_push g1 _
    have HK1 : Hid (V0.grownBy V1 none) := grown_trans HK0.out HD1.out
    have HY1 : Hid (V1.heap[w1.heap.size]? = some (.cells #[.int .i64 f.ho, .int .u8 f.su, .int .u16 f.tr, .int .i64 (max f.po 0), .int .i64 f.he] 30 (0, 0))) := by rw [hV1]; exact alloc_at _ _ _
    clear g1 HM1 f0 f1 f2 f3 f4
    go_upto_region 12 with fail
    rw [← hV1]
    clear hV1
    obtain ⟨y1, hy1⟩ : ∃ y1, y1 = w1.heap.size := ⟨_, rfl⟩
    rw [← hy1] at HY1 ⊢
    clear hy1
    have f0 := HK1.out.cell (block_cell HS.out.F 0) (by simp)
    have f1 := HK1.out.cell (block_cell HS.out.F 1) (by simp)
    have f2 := HK1.out.cell (block_cell HS.out.F 2) (by simp)
    have f3 := HK1.out.cell (block_cell HS.out.F 3) (by simp)
    have f4 := HK1.out.cell (block_cell HS.out.F 4) (by simp)
    have m0 := HK1.out.cell (block_cell HS.out.O 0) (by simp)
    have m1 := HK1.out.cell (block_cell HS.out.O 1) (by simp)
    have m2 := HK1.out.cell (block_cell HS.out.O 2) (by simp)
    have m3 := HK1.out.cell (block_cell HS.out.O 3) (by simp)
    go_wp2_with fail
    refine (HM2 V1 HK1.out).mono ?_
    rintro e w2 ⟨rfl, g2⟩
    obtain ⟨V2, hV2⟩ : ∃ V2, V2 = w2.alloc (.cells #[.int .i64 f.ho, .int .u8 f.su, .int .u16 f.tr, .int .i64 yp, .int .i64 yh] 30) := ⟨_, rfl⟩
    have HD2 : Hid (V1.grownBy V2 none) := by rw [hV2]; exact grown_push g2 _
    have HK2 : Hid (V0.grownBy V2 none) := grown_trans HK1.out HD2.out
    have HY2 : Hid (V2.heap[w2.heap.size]? = some (.cells #[.int .i64 f.ho, .int .u8 f.su, .int .u16 f.tr, .int .i64 yp, .int .i64 yh] 30 (0, 0))) := by rw [hV2]; exact alloc_at _ _ _
    clear g2 HM2 f0 f1 f2 f3 f4 m0 m1 m2 m3
    go_upto_region 13 with fail
    rw [← hV2]
    clear hV2
    obtain ⟨y2, hy2⟩ : ∃ y2, y2 = w2.heap.size := ⟨_, rfl⟩
    rw [← hy2] at HY2 ⊢
    clear hy2
    have HK2a : Hid (V2.grownBy V2 none) := grown_refl _ _
    have f0 := HK2a.out.cell (block_cell HY2.out 0) (by simp)
    have f1 := HK2a.out.cell (block_cell HY2.out 1) (by simp)
    have f2 := HK2a.out.cell (block_cell HY2.out 2) (by simp)
    have f3 := HK2a.out.cell (block_cell HY2.out 3) (by simp)
    have f4 := HK2a.out.cell (block_cell HY2.out 4) (by simp)
    have m0 := HK2.out.cell (block_cell HS.out.T 0) (by simp)
    have m1 := HK2.out.cell (block_cell HS.out.T 1) (by simp)
    have m2 := HK2.out.cell (block_cell HS.out.T 2) (by simp)
    have m3 := HK2.out.cell (block_cell HS.out.T 3) (by simp)
    go_wp2_with fail
    refine (HM3 V2 HK2.out).mono ?_
    rintro e w3 ⟨rfl, g3⟩
    obtain ⟨V3, hV3⟩ : ∃ V3, V3 = w3.alloc (.cells #[.int .i64 f.ho, .int .u8 f.su, .int .u16 f.tr, .int .i64 zp, .int .i64 zh] 30) := ⟨_, rfl⟩
    have HD3 : Hid (V2.grownBy V3 none) := by rw [hV3]; exact grown_push g3 _
    have HK3 : Hid (V0.grownBy V3 none) := grown_trans HK2.out HD3.out
    have HY3 : Hid (V3.heap[w3.heap.size]? = some (.cells #[.int .i64 f.ho, .int .u8 f.su, .int .u16 f.tr, .int .i64 zp, .int .i64 zh] 30 (0, 0))) := by rw [hV3]; exact alloc_at _ _ _
    clear g3 HM3 f0 f1 f2 f3 f4 m0 m1 m2 m3 HK2a
    go_upto_region 14 with fail
    rw [← hV3]
    clear hV3
    obtain ⟨y3, hy3⟩ : ∃ y3, y3 = w3.heap.size := ⟨_, rfl⟩
    rw [← hy3] at HY3 ⊢
    clear hy3
    have f0 := HK3.out.cell (block_cell HS.out.F 0) (by simp)
    have f1 := HK3.out.cell (block_cell HS.out.F 1) (by simp)
    have f2 := HK3.out.cell (block_cell HS.out.F 2) (by simp)
    have f3 := HK3.out.cell (block_cell HS.out.F 3) (by simp)
    have f4 := HK3.out.cell (block_cell HS.out.F 4) (by simp)
    have m0 := HK3.out.cell (block_cell HS.out.B 0) (by simp)
    have m1 := HK3.out.cell (block_cell HS.out.B 1) (by simp)
    have m2 := HK3.out.cell (block_cell HS.out.B 2) (by simp)
    have m3 := HK3.out.cell (block_cell HS.out.B 3) (by simp)
    go_wp2_with fail
    refine (HM4 V3 HK3.out).mono ?_
    rintro e w4 ⟨rfl, g4⟩
    obtain ⟨V4, hV4⟩ : ∃ V4, V4 = w4.alloc (.cells #[.int .i64 q0, .int .u8 q1, .int .u16 q2, .int .i64 q3, .int .i64 q4] 30) := ⟨_, rfl⟩
    have HD4 : Hid (V3.grownBy V4 none) := by rw [hV4]; exact grown_push g4 _
    have HK4 : Hid (V0.grownBy V4 none) := grown_trans HK3.out HD4.out
    have HY4 : Hid (V4.heap[w4.heap.size]? = some (.cells #[.int .i64 q0, .int .u8 q1, .int .u16 q2, .int .i64 q3, .int .i64 q4] 30 (0, 0))) := by rw [hV4]; exact alloc_at _ _ _
    clear g4 HM4 f0 f1 f2 f3 f4 m0 m1 m2 m3
    go_upto_region 15 with fail
    rw [← hV4]
    clear hV4
    obtain ⟨y4, hy4⟩ : ∃ y4, y4 = w4.heap.size := ⟨_, rfl⟩
    rw [← hy4] at HY4 ⊢
    clear hy4
    have HZ1 : Hid (V4.heap[y1]? = some (.cells #[.int .i64 f.ho, .int .u8 f.su, .int .u16 f.tr, .int .i64 (max f.po 0), .int .i64 f.he] 30 (0, 0))) := grown_keep (grown_trans HD2.out (grown_trans HD3.out HD4.out)) HY1.out (by simp)
    have HZ2 : Hid (V4.heap[y2]? = some (.cells #[.int .i64 f.ho, .int .u8 f.su, .int .u16 f.tr, .int .i64 yp, .int .i64 yh] 30 (0, 0))) := grown_keep (grown_trans HD3.out HD4.out) HY2.out (by simp)
    have HZ3 : Hid (V4.heap[y3]? = some (.cells #[.int .i64 f.ho, .int .u8 f.su, .int .u16 f.tr, .int .i64 zp, .int .i64 zh] 30 (0, 0))) := grown_keep HD4.out HY3.out (by simp)
    clear HY1 HY2 HY3 HD1 HD2 HD3 HD4 HK0 HK1 HK2 HK3
    go_cut [142] from 107 to 141 (fun x142 wc => x142 = .bool false ∧ V4.grownBy wc none)
    case first =>
      have s3 := HK4.out.cell (block_cell HS.out.F 3) (by simp)
      have s4 := HK4.out.cell (block_cell HS.out.F 4) (by simp)
      have r3 := block_cell HZ1.out 3
      have r4 := block_cell HZ1.out 4
      have u3 := block_cell HZ2.out 3
      have hy0 : ¬ yp < 0 := by have := HY0.out; omega
      have e1 : (f.he != f.he) = false := by simp
      have e2 : (max f.po 0 != max f.po 0) = false := by simp
      cases ft with
      | true =>
        have hq : qe = 0 := HQe.out
        subst hq
        clear HQe HQ
        go_wp2_with fail
        go_meet
        case rel => exact ⟨rfl, grown_refl _ _⟩
      | false =>
        have hq : qe = 2 := HQe.out
        subst hq
        clear HQe HQ
        go_wp2_with fail
        go_meet
        case rel => exact ⟨rfl, grown_refl _ _⟩
    case rest =>
    obtain ⟨rfl, g5⟩ := hcut
    obtain ⟨V5, hV⟩ : ∃ V, V = wc := ⟨_, rfl⟩
    subst hV
    have HD5 : Hid (V4.grownBy V5 none) := g5
    clear g5
    go_upto_region 17 with fail
    go_cut [162] from 143 to 161 (fun x162 wc => x162 = .bool false ∧ V5.grownBy wc none)
    case first =>
      have HK5 : Hid (V0.grownBy V5 none) := grown_trans HK4.out HD5.out
      have HRw1 := raw_any ok nb es p f o0 o1 o2 o3 V5 (HS.out.bk.keep HK5.out) HMd.out HIf.out.1
      have HRw2 := fun (X : World) (k : V0.grownBy X none) => raw_any ok nb es p f b0 b1 b2 b3 X (HS.out.bk.keep k) HMd.out HIf.out.1
      unfold fev at HRw1 HRw2
      obtain ⟨r1, hr1⟩ : ∃ r1, r1 = addP f.po (zs p o0 o1 o2 o3) := ⟨_, rfl⟩
      obtain ⟨r2, hr2⟩ : ∃ r2, r2 = addP f.po (zs p b0 b1 b2 b3) := ⟨_, rfl⟩
      have HE1 : Hid (r1 = addP f.po (zs p o0 o1 o2 o3)) := hr1
      rw [← hr1] at HRw1
      rw [← hr2] at HRw2
      clear hr1 hr2
      cases ft with
      | false =>
        clear HRw1 HRw2
        go_wp2_with fail
        go_meet
        case rel => exact ⟨rfl, grown_refl _ _⟩
      | true =>
        have HQ1 : Hid (mkdF p f b0 b1 b2 b3 = ⟨q0, q1, q2, q3, q4⟩) := HQ.out rfl
        clear HQ
        have f0 := HK5.out.cell (block_cell HS.out.F 0) (by simp)
        have f1 := HK5.out.cell (block_cell HS.out.F 1) (by simp)
        have f2 := HK5.out.cell (block_cell HS.out.F 2) (by simp)
        have f3 := HK5.out.cell (block_cell HS.out.F 3) (by simp)
        have f4 := HK5.out.cell (block_cell HS.out.F 4) (by simp)
        have m0 := HK5.out.cell (block_cell HS.out.O 0) (by simp)
        have m1 := HK5.out.cell (block_cell HS.out.O 1) (by simp)
        have m2 := HK5.out.cell (block_cell HS.out.O 2) (by simp)
        have m3 := HK5.out.cell (block_cell HS.out.O 3) (by simp)
        go_wp2_with fail
        refine HRw1.mono ?_
        rintro e w6 ⟨rfl, g6⟩
        have HD6 : Hid (V5.grownBy w6 none) := g6
        have HK6 : Hid (V0.grownBy w6 none) := grown_trans HK5.out g6
        clear HRw1 g6 f0 f1 f2 f3 f4 m0 m1 m2 m3
        by_cases h1 : 0 ≤ r1
        · have h1' : ¬ r1 < 0 := by omega
          have f0 := HK6.out.cell (block_cell HS.out.F 0) (by simp)
          have f1 := HK6.out.cell (block_cell HS.out.F 1) (by simp)
          have f2 := HK6.out.cell (block_cell HS.out.F 2) (by simp)
          have f3 := HK6.out.cell (block_cell HS.out.F 3) (by simp)
          have f4 := HK6.out.cell (block_cell HS.out.F 4) (by simp)
          have m0 := HK6.out.cell (block_cell HS.out.B 0) (by simp)
          have m1 := HK6.out.cell (block_cell HS.out.B 1) (by simp)
          have m2 := HK6.out.cell (block_cell HS.out.B 2) (by simp)
          have m3 := HK6.out.cell (block_cell HS.out.B 3) (by simp)
          have HE : Hid (⟨f.ho, f.su, f.tr, zp, zh⟩ = (⟨q0, q1, q2, q3, q4⟩ : Fe)) := by
            have a := mkd_both p f o0 o1 o2 o3 t0 t1 t2 t3 (by rw [← HE1.out]; exact h1)
            have s := HSum.out
            rw [HYp.out, HZp.out, ← s.1, ← s.2.1, ← s.2.2.1, ← s.2.2.2, HQ1.out] at a
            exact a
          go_wp2_with fail
          refine (HRw2 w6 HK6.out).mono ?_
          rintro e w7 ⟨rfl, g7⟩
          have HD7 : Hid (V5.grownBy w7 none) := grown_trans HD6.out g7
          have HG7 : Hid (V4.grownBy w7 none) := grown_trans HD5.out HD7.out
          clear HRw2 g7 f0 f1 f2 f3 f4 m0 m1 m2 m3
          by_cases h2 : 0 ≤ r2
          · have h2' : ¬ r2 < 0 := by omega
            have v0 := HG7.out.cell (block_cell HZ3.out 0) (by simp)
            have v1 := HG7.out.cell (block_cell HZ3.out 1) (by simp)
            have v2 := HG7.out.cell (block_cell HZ3.out 2) (by simp)
            have v3 := HG7.out.cell (block_cell HZ3.out 3) (by simp)
            have v4 := HG7.out.cell (block_cell HZ3.out 4) (by simp)
            have u0 := HG7.out.cell (block_cell HY4.out 0) (by simp)
            have u1 := HG7.out.cell (block_cell HY4.out 1) (by simp)
            have u2 := HG7.out.cell (block_cell HY4.out 2) (by simp)
            have u3 := HG7.out.cell (block_cell HY4.out 3) (by simp)
            have u4 := HG7.out.cell (block_cell HY4.out 4) (by simp)
            have hE := HE.out
            injection hE with a0 a1 a2 a3 a4
            subst a0 a1 a2 a3 a4
            have nq := neq_fe2 f.ho f.su f.tr zp zh
            have ng := eqg_fe
            clear HE HQ1
            go_wp2_with fail
            go_meet
            case rel => exact ⟨rfl, HD7.out⟩
          · have h2' : r2 < 0 := by omega
            clear HE
            go_wp2_with fail
            go_meet
            case rel => exact ⟨rfl, HD7.out⟩
        · have h1' : r1 < 0 := by omega
          clear HRw2
          go_wp2_with fail
          go_meet
          case rel => exact ⟨rfl, HD6.out⟩
    case rest =>
    obtain ⟨rfl, g5⟩ := hcut
    obtain ⟨V6, hV⟩ : ∃ V, V = wc := ⟨_, rfl⟩
    subst hV
    have HK6 : Hid (V0.grownBy V6 none) := grown_trans HK4.out (grown_trans HD5.out g5)
    clear g5 HD5 HK4 HZ1 HZ2 HZ3 HY4 HQ HQe HYp HZp HY0 HSum HOk
    have HCd : Hid (∀ X, V0.grownBy X none → Calls Try.prog 8 #[.pointer (some ⟨nb, 0, none⟩), thv t] X (CrPost (atC p es t.card).1 (atC p es t.card).2 (atX p es t.card) X)) := fun X g => tcard_book ok nb es p t X (HS.out.bk.keep g)
    have HXp : Hid (¬ atX p es t.card = 0 → (atC p es t.card).2 = []) := fun hne => by
      by_cases hi : atIn p es t.card
      · exact absurd (atX_in hi) hne
      · rw [atC_out hi]
    have HLp : Hid ((atC p es t.card).2.length ≤ 4 ∧ ∀ q ∈ (atC p es t.card).2, 1 ≤ q.wn ∧ q.wn ≤ 6) := by
      show _ ∧ _
      by_cases hi : atIn p es t.card
      · obtain ⟨j, hj⟩ : ∃ j : Nat, t.card = (j : Int) + 1 := ⟨(t.card - 1).toNat, by have := hi.2.1; omega⟩
        have hjl : j < es.length := by have := hi.2.2; omega
        rw [hj, atC_in hi.1 (List.getElem?_eq_getElem hjl)]
        exact ⟨HS.out.bk.parts _ (List.getElem_mem _), parts_when (HS.out.bk.may _ (List.getElem_mem _))⟩
      · rw [atC_out hi]; exact ⟨Nat.zero_le _, fun q hq => by cases hq⟩
    obtain ⟨h, hh⟩ : ∃ h, h = (atC p es t.card).1 := ⟨_, rfl⟩
    obtain ⟨ps, hps⟩ : ∃ ps, ps = (atC p es t.card).2 := ⟨_, rfl⟩
    obtain ⟨x, hx⟩ : ∃ x, x = atX p es t.card := ⟨_, rfl⟩
    rw [← hh, ← hps, ← hx] at HCd
    rw [← hps, ← hx] at HXp
    rw [← hps] at HLp
    clear hh hps hx
    have HGw : Hid (w.grownBy V6 none) := grown_trans HS.out.g HK6.out
    have HT6 : Hid (V6.heap[nH]? = some (.cells #[.int .i64 t.card, .int .i64 t.owner, .int .u8 t.place, .int .i64 t.stamp, .int .i64 t.hurt, .int .i64 t.m0, .int .i64 t.m1, .int .i64 t.m2, .int .i64 t.m3, .int .i64 t.done, .bool t.fresh] 34 (0, 0))) := grown_keep HK6.out HS.out.H (by simp)
    have HC1 := HCd.out V6 HK6.out
    unfold CrPost cv thv at HC1
    have HC6 : Hid (∀ X, V6.grownBy X none → Calls Try.prog 8 #[.pointer (some ⟨nb, 0, none⟩), thv t] X (CrPost h ps x X)) := fun X g => HCd.out X (grown_trans HK6.out g)
    clear HCd HK6 HS HIf HMd
    have x0 := block_cell HT6.out 0
    have x1 := block_cell HT6.out 1
    have x2 := block_cell HT6.out 2
    have x3 := block_cell HT6.out 3
    have x4 := block_cell HT6.out 4
    have x5 := block_cell HT6.out 5
    have x6 := block_cell HT6.out 6
    have x7 := block_cell HT6.out 7
    have x8 := block_cell HT6.out 8
    have x9 := block_cell HT6.out 9
    have x10 := block_cell HT6.out 10
    go_upto_region 19 with fail
    go_wp2_with fail
    refine HC1.mono ?_
    rintro e r1 ⟨u1, rfl, p1, g1⟩
    have HPs : Hid (PsAt r1 u1 ps) := p1.at
    obtain ⟨a1, k1, rfl⟩ := p1.at.form
    obtain ⟨n, hn⟩ : ∃ n, n = ps.length := ⟨_, rfl⟩
    have HNn : Hid (n = ps.length) := hn
    simp only [← hn] at HPs ⊢
    clear hn
    obtain ⟨V7, hV7⟩ : ∃ V7, V7 = r1.alloc (.cells (ccs h (.slice a1 n k1)) 47) := ⟨_, rfl⟩
    have HD7 : Hid (V6.grownBy V7 none) := by rw [hV7]; exact grown_push g1 _
    have HP7 : Hid (PsAt V7 (.slice a1 n k1) ps) := by rw [hV7]; exact HPs.out.keep (World.grownBy_alloc _ _ none)
    have HY7 : Hid (V7.heap[r1.heap.size]? = some (.cells (ccs h (.slice a1 n k1)) 47 (0, 0))) := by rw [hV7]; exact alloc_at _ _ _
    unfold ccs at hV7
    clear HC1 p1 g1 HPs x0 x1 x2 x3 x4 x5 x6 x7 x8 x9 x10
    go_upto_region 20 with fail
    rw [← hV7]
    clear hV7
    obtain ⟨yc, hyc⟩ : ∃ yc, yc = r1.heap.size := ⟨_, rfl⟩
    rw [← hyc] at HY7 ⊢
    clear hyc
    have c8 := block_cell HY7.out 8
    simp only [ccs] at c8
    obtain ⟨i0, hi, hz0, hz1, hz2⟩ := info_parts (P := Try.prog) (e := 4) (z := .bool false) (size := 1) (bytes := 1) (by kernel_rfl)
    have n4 : n ≤ 4 := by have := HLp.out.1; have := HNn.out; omega
    go_upto_block 2 with (at_make; refine wpList_make_full _ rfl _ _ 50 rfl V7.heap.size 4 i0 (.bool false) 1 Try.underlying50 hi hz0 hz1 .i64 .i64 _ _ n rfl rfl rfl rfl (by rw [hz2]; omega) (Nat.le_trans n4 (by decide)) (Nat.le_refl _) ?_; intro V8 o8 g8; have HO8 := o8; have HD8 : Hid (V7.grownBy V8 none) := g8; clear g8)
    obtain ⟨d, hd⟩ : ∃ d, d = V7.heap.size := ⟨_, rfl⟩
    have HDd : Hid (d = V7.heap.size) := hd
    have HB8 : Hid (BsAt V8 d n (List.replicate n false)) := bs_made (by rw [← hd] at o8; exact o8)
    rw [← hd]
    clear hd o8 HO8 hi hz0 hz1 hz2 i0
    have HLw : Hid (∀ q ∈ ps, 1 ≤ q.wn ∧ q.wn ≤ 6) := HLp.out.2
    have HL4 : Hid (ps.length ≤ 4) := HLp.out.1
    have HGx : Hid (w.grownBy V7 none) := grown_trans HGw.out HD7.out
    clear HLp HGw c8 n4
    go_cut [27, 29, 30, 31, 32] from 173 to 237 (fun x27 _ _ _ _ wc => x27 = .int .i64 ((ps.length : Nat) : Int) ∧ V7.grownBy wc none)
    case first =>
      go_wp2_with fail
      go_loopw [27, 29, 30, 31, 32] (fun x27 x29 _ _ _ wr => ∃ (M : Int) (bs : List Bool), 1 ≤ M ∧ M ≤ 7 ∧ x29 = .int .u8 M ∧ x27 = .int .i64 ((cntB ps M : Nat) : Int) ∧ Hid (BsAt wr d n bs ∧ Met ps M [] bs ∧ V7.grownBy wr none)) (fun _ x29 _ _ _ _ => (7 - intOf x29).toNat)
      case atStart => exact ⟨1, _, by decide, by decide, rfl, by rw [cntB_none (fun q hq => (HLw.out q hq).1)]; rfl, HB8.out, by rw [HNn.out]; exact Met.start (fun q hq => (HLw.out q hq).1), HD8.out⟩
      case round =>
        obtain ⟨M, bs, hM1, hM7, rfl, rfl, HR⟩ := hrel
        clear HB8
        obtain ⟨U, hU⟩ : ∃ U, U = wr := ⟨_, rfl⟩
        subst hU
        by_cases hM : M ≤ 6
        · have HT9 : Hid (U.heap[nH]? = some (.cells #[.int .i64 t.card, .int .i64 t.owner, .int .u8 t.place, .int .i64 t.stamp, .int .i64 t.hurt, .int .i64 t.m0, .int .i64 t.m1, .int .i64 t.m2, .int .i64 t.m3, .int .i64 t.done, .bool t.fresh] 34 (0, 0))) := grown_keep (grown_trans HD7.out HR.out.2.2) HT6.out (by simp)
          have HQ := tparts_of (.pointer (some ⟨nb, 0, none⟩)) t h ps x M U HXp.out HL4.out (fun X g => HC6.out X (grown_trans (grown_trans HD7.out HR.out.2.2) g))
          unfold thv at HQ
          obtain ⟨l, hl⟩ : ∃ l, l = plF ps 0 M := ⟨_, rfl⟩
          rw [← hl] at HQ
          have HLl : Hid (l = plF ps 0 M) := hl
          obtain ⟨c, hc⟩ : ∃ c, c = cntB ps M := ⟨_, rfl⟩
          have HCc : Hid (c = cntB ps M) := hc
          rw [← hc]
          clear hl hc
          have x0 := block_cell HT9.out 0
          have x1 := block_cell HT9.out 1
          have x2 := block_cell HT9.out 2
          have x3 := block_cell HT9.out 3
          have x4 := block_cell HT9.out 4
          have x5 := block_cell HT9.out 5
          have x6 := block_cell HT9.out 6
          have x7 := block_cell HT9.out 7
          have x8 := block_cell HT9.out 8
          have x9 := block_cell HT9.out 9
          have x10 := block_cell HT9.out 10
          go_wp2_with fail
          refine HQ.mono ?_
          rintro e S ⟨vl, rfl, oS, gS⟩
          obtain ⟨la, lc, rfl⟩ := oS.form
          have HOl : Hid (OwT S U.heap.size (.slice la l.length lc) l) := oS
          have HB9 : Hid (BsAt S d n bs) := HR.out.1.grow gS
          have HD9 : Hid (V7.grownBy S none) := grown_trans HR.out.2.2 gS
          have HMt : Hid (Met ps M [] bs) := HR.out.2.1
          have HUd : Hid (d < U.heap.size) := HR.out.1.lt
          have exx : (x != x) = false := by simp
          clear HQ oS gS HR HT9 x0 x1 x2 x3 x4 x5 x6 x7 x8 x9 x10
          go_wp2_with fail
          go_loopw [27, 32] (fun x27 x32 wr => ∃ (j : Nat) (bs2 : List Bool), j ≤ l.length ∧ x32 = .int .i64 (j : Int) ∧ x27 = .int .i64 ((c + j : Nat) : Int) ∧ Hid (BsAt wr d n bs2 ∧ Met ps M (l.take j) bs2 ∧ V7.grownBy wr none ∧ OwT wr U.heap.size (.slice la l.length lc) l)) (fun _ x32 _ => l.length - (intOf x32).toNat)
          case atStart => exact ⟨0, bs, Nat.zero_le _, rfl, rfl, HB9.out, HMt.out, HD9.out, HOl.out⟩
          case round =>
            obtain ⟨j, bs2, hj, rfl, rfl, HI⟩ := hrel
            clear HB9 HMt HD9 HOl
            obtain ⟨Y, hY⟩ : ∃ Y, Y = wr := ⟨_, rfl⟩
            subst hY
            by_cases hlt : j < l.length
            · obtain ⟨xj, hxj⟩ : ∃ xj, l[j]? = some xj := ⟨_, List.getElem?_eq_getElem hlt⟩
              obtain ⟨k, q, hk1, hk2, hk3, hk4, hk5, hk6⟩ := plF_at (by rw [← HLl.out]; exact hxj)
              rw [← HLl.out] at hk5 hk6
              obtain ⟨lg, lcap, el, HLc⟩ := own_at1 HI.out.2.2.2 (by omega)
              have el1 : la = some ⟨lg, 0, none⟩ := by injection el
              clear el
              subst el1
              have y0 : Y.cell? ⟨lg, j, none⟩ = some (.int .i64 (k : Int)) := HLc j _ (by rw [← hk1]; unfold ints; rw [List.getElem?_map, hxj]; rfl)
              have hkn : k < n := by rw [HNn.out]; exact hk2
              have m0 : Y.cell? ⟨d, k, none⟩ = some (.bool false) := HI.out.1.cell (HI.out.2.1.fresh hk3 hk4 hk5) hkn
              have mf : ∀ i, Y.frozen? ⟨d, i, none⟩ = false := HI.out.1.free
              have c8 := HI.out.2.2.1.cell (block_cell HY7.out 8) (by simp)
              simp only [ccs] at c8
              obtain ⟨pg, po2, pcap, ep, HPp⟩ := HP7.out.part (by omega)
              have ep1 : a1 = some ⟨pg, po2, none⟩ := by injection ep
              clear ep
              subst ep1
              have w0 := ((HPp k q hk3).keep HI.out.2.2.1).c0
              rw [hk4] at w0
              have HStep : Hid (Met ps M (l.take (j + 1)) (bs2.set k true)) := by show Met _ _ _ _; rw [hk6]; exact HI.out.2.1.step
              have HNe : Hid (¬ lg = d) := fun e => by have := (World.ownsRow.lt HI.out.2.2.2 lg rfl).1; have := HUd.out; omega
              have k0 : (0 : Int) ≤ (k : Int) := by omega
              have k1' : (k : Int) < (n : Int) := by omega
              have k2' : ¬ (n : Int) ≤ (k : Int) := by omega
              have k3' : ¬ (k : Int) < 0 := by omega
              have j0 : (0 : Int) ≤ (j : Int) := by omega
              have j1 : (j : Int) < (l.length : Int) := by omega
              have mq : (M != M) = false := by simp
              have HLx : Hid (j + 1 ≤ l.length) := hlt
              have HMe : Hid (l.length - (intOf (.int .i64 ((j : Int) + 1))).toNat < l.length - (intOf (.int .i64 (j : Int))).toNat) := meas_next hlt
              have HW1 : Hid (wrap64 ((j : Int) + 1) = (j : Int) + 1) := by have := plF_len ps 0 M; rw [← HLl.out] at this; have := HL4.out; show _ = _; unfold wrap64; omega
              have HW2 : Hid (wrap64 (((c + j : Nat) : Int) + 1) = ((c + (j + 1) : Nat) : Int)) := by have := cntB_le ps M; rw [← HCc.out] at this; have := plF_len ps 0 M; rw [← HLl.out] at this; have := HL4.out; show _ = _; unfold wrap64; omega
              obtain ⟨cj, hcj⟩ : ∃ cj : Int, cj = ((c + j : Nat) : Int) := ⟨_, rfl⟩
              rw [← hcj] at HW2 ⊢
              obtain ⟨nl, hnl⟩ : ∃ nl, nl = l.length := ⟨_, rfl⟩
              have HNl : Hid (nl = l.length) := hnl
              simp only [← hnl] at j1 HLx HMe HI ⊢
              clear hcj hnl hk1 hk2 hk3 hk4 hk5 hk6 hxj HLc HPp hj hlt hkn
              go_upto_region 31 with fail
              go_quiet (fail)
              obtain ⟨Y2, hY2⟩ : ∃ Y2, Y2 = Y.drewN nq := ⟨_, rfl⟩
              have gY2 : Y.grownBy Y2 none := by rw [hY2]; exact grown_drewN _ _ _
              have HNext : Hid (BsAt (Y2.setCell ⟨d, k, none⟩ (.bool true)) d n (bs2.set k true) ∧ Met ps M (l.take (j + 1)) (bs2.set k true) ∧ V7.grownBy (Y2.setCell ⟨d, k, none⟩ (.bool true)) none ∧ OwT (Y2.setCell ⟨d, k, none⟩ (.bool true)) U.heap.size (.slice (some ⟨lg, 0, none⟩) nl lc) l) := ⟨(HI.out.1.grow gY2).set k true, HStep.out, grown_own (grown_trans HI.out.2.2.1 gY2) (grown_set _ _ _ _) (fun y e => by cases e; rw [HDd.out]; exact Nat.le_refl _), ownT_other (ownT_grow HI.out.2.2.2 gY2) (grown_set Y2 d k (.bool true)) (fun e => by injection e with e; exact HNe.out e)⟩
              have y1 := gY2.cell y0 (by simp)
              have m1 := gY2.cell m0 (by simp)
              have mf2 : ∀ i, Y2.frozen? ⟨d, i, none⟩ = false := (HI.out.1.grow gY2).free
              rw [← hY2]
              clear hY2 gY2 HI y0 m0 mf c8 w0 HStep
              go_wp2_with fail
              go_roundw
              case rel => exact ⟨j + 1, _, HLx.out, by first | rfl | (rw [HW1.out]; rfl), by first | rfl | (rw [HW2.out]), HNext⟩
              case measure => first | exact HMe.out | (rw [HW1.out]; exact HMe.out)
            · have hjl : j = l.length := by omega
              have HF : Hid (BsAt Y d n bs2 ∧ Met ps (M + 1) [] bs2 ∧ V7.grownBy Y none) := ⟨HI.out.1, by have := HI.out.2.1; rw [hjl, List.take_length, HLl.out] at this; exact this.next, HI.out.2.2.1⟩
              have HCn : Hid (((c + j : Nat) : Int) = ((cntB ps (M + 1) : Nat) : Int)) := by show _ = _; rw [cntB_next ps 0 M, HCc.out, hjl, HLl.out]
              have hu8 : IntKind.u8.wrap (M + 1) = M + 1 := by rw [IntKind.wrap_u8]; omega
              have HMm : Hid ((7 - (M + 1)).toNat < (7 - M).toNat) := by show _ < _; omega
              have HM2 : Hid (1 ≤ M + 1 ∧ M + 1 ≤ 7) := ⟨by omega, by omega⟩
              have hlt' : ¬ (j : Int) < (l.length : Int) := by omega
              obtain ⟨cn, hcn⟩ : ∃ cn : Int, cn = ((c + j : Nat) : Int) := ⟨_, rfl⟩
              rw [← hcn] at HCn ⊢
              clear hcn HI hjl hj hM1 hM7
              go_wp2_with fail
              go_roundw
              case rel => exact ⟨M + 1, bs2, HM2.out.1, HM2.out.2, rfl, by rw [HCn.out], HF⟩
              case measure => exact HMm.out
        · have hM8 : M = 7 := by omega
          subst hM8
          have HCa : Hid (cntB ps 7 = ps.length) := cntB_all (fun q hq => by have := (HLw.out q hq).2; omega)
          obtain ⟨c, hc⟩ : ∃ c, c = cntB ps 7 := ⟨_, rfl⟩
          rw [← hc] at HCa ⊢
          clear hc hM hM1 hM7
          go_wp2_with fail
          go_meet
          case rel => exact ⟨by rw [HCa.out], HR.out.2.2⟩
    case rest =>
      obtain ⟨rfl, g9⟩ := hcut
      obtain ⟨Y, hY⟩ : ∃ Y, Y = wc := ⟨_, rfl⟩
      subst hY
      have HGY : Hid (w.grownBy Y none) := grown_trans HGx.out g9
      have c8 := g9.cell (block_cell HY7.out 8) (by simp)
      simp only [ccs] at c8
      have HA := tawake_any Y
      have en : ((ps.length : Int) == (n : Int)) = true := by rw [HNn.out]; simp
      clear g9
      go_wp2_with fail
      refine HA.mono ?_
      rintro e Z ⟨rfl, gz⟩
      have HGZ : Hid (w.grownBy Z none) := grown_trans HGY.out gz
      clear HA gz
      go_wp2
      go_ret
      exact ⟨rfl, HGZ.out⟩
end Go.Proofs.Ytogpgldbbegniab
