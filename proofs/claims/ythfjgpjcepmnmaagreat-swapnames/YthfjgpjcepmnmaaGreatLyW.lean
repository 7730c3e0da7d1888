/-
  Layers: effects listed; what all calls look at first.
-/
import Derived.Test.YthfjgpjcepmnmaaGreatLyV
namespace Go.Proofs.YthfjgpjcepmnmaaGreat
open Go.RowKit

def LiIn (R : List Rw) (S : List Sd) (k : Nat) (L : List Se) : Prop := listF R (S.drop k) L = listF R S []
theorem LiIn.step {R : List Rw} {S : List Sd} {k : Nat} {L : List Se} (h : LiIn R S k L) (hk : k < S.length) : listF R S [] = (match findF R S[k] with | some e => if joinsB e L then listF R (S.drop (k + 1)) (L ++ [e]) else none | none => none) := by
  unfold LiIn at h
  rw [List.drop_eq_getElem_cons hk] at h
  rw [← h]
  rfl
theorem len_smallS {n : Nat} (h : n ≤ 4096) : n + 1 ≤ maxLen ∧ (n + 1) * 64 ≤ 140737488355328 := by unfold maxLen; omega
def LiPost (w : World) (R : List Rw) (S : List Sd) (e : Ending) (w' : World) : Prop := ∃ p m c b, e = .returned (.tuple #[.slice p m c, .bool b]) ∧ w.grownBy w' none ∧ b = (listF R S []).isSome ∧ ∀ L, listF R S [] = some L → SOwn w' w.heap.size (.slice p m c) L
theorem LiPost.no {w w' : World} {R : List Rw} {S : List Sd} (h : listF R S [] = none) (g : w.grownBy w' none) : LiPost w R S (.returned (.tuple #[.slice none 0 0, .bool false])) w' := ⟨none, 0, 0, false, rfl, g, by rw [h]; rfl, fun L q => by rw [h] at q; cases q⟩
set_option maxRecDepth 100000 in
set_option maxHeartbeats 4000000 in
theorem llist_any (vr vf v : Value) (X : List Rv) (F : List Fe) (S : List Sd) (w : World) (T : TbAt w vr vf X F) (A : sdR.At w v S) (hl : S.length ≤ 4096) : Calls Tryz.prog 157 #[tbv vr vf, v] w (LiPost w (rws X) S) := by
  obtain ⟨i0, hi, hz0, hz1, hz2⟩ := info_parts Tryz.linfoS
  obtain ⟨pr, cr, rfl⟩ := T.rows.form
  obtain ⟨pf, cf, rfl⟩ := T.fs.form
  obtain ⟨pl, cl, rfl⟩ := A.form
  obtain ⟨W1, hW1⟩ : ∃ W1, W1 = w.alloc (.cells #[.slice pr X.length cr, .slice pf F.length cf] 161) := ⟨_, rfl⟩
  have HG1 : Hid (w.grownBy W1 none) := by rw [hW1]; exact World.grownBy_alloc _ _ none
  have HB : Hid (TbB W1 w.heap.size (.slice pr X.length cr) (.slice pf F.length cf)) := by rw [hW1]; exact alloc_at w _ _
  have HT : Hid (TbAt W1 (.slice pr X.length cr) (.slice pf F.length cf) X F) := T.keep HG1.out
  have HA : Hid (sdR.At W1 (.slice pl S.length cl) S) := A.keep HG1.out
  have Hl : Hid (S.length ≤ 4096) := hl
  unfold tbv
  clear T A hl
  go_enter Tryz.func157, Tryz.ntmps157
  go_upto_region 1 with fail
  rw [← hW1]
  clear hW1
  obtain ⟨n0, h0⟩ : ∃ n0, n0 = w.heap.size := ⟨_, rfl⟩
  simp only [← h0] at HB ⊢
  clear h0
  go_wp2_with fail
  go_loopw [6, 13] (fun v i wr => ∃ (k : Nat) (L : List Se), k ≤ S.length ∧ i = .int .i64 (k : Int) ∧ Hid (SOwn wr W1.heap.size v L ∧ L.length ≤ k ∧ W1.grownBy wr none) ∧ Hid (LiIn (rws X) S k L)) (fun _ i _ => S.length - (intOf i).toNat)
  case atStart => exact ⟨0, [], Nat.zero_le _, rfl, ⟨RecT.Own.nil _ _ _ _, Nat.le_refl _, grown_refl _ _⟩, rfl⟩
  case round =>
    obtain ⟨k, L, hk, rfl, HO, HI⟩ := hrel
    obtain ⟨U, hU⟩ : ∃ U, U = wr := ⟨_, rfl⟩
    subst hU
    obtain ⟨q, cq, rfl⟩ := HO.out.1.form
    by_cases hlt : k < S.length
    · obtain ⟨g, off, cap, e1, R⟩ := sd_there (HA.out.keep HO.out.2.2) hlt
      cases e1
      have HStep : Hid (_ = _) := HI.out.step hlt
      obtain ⟨s, hs⟩ : ∃ s, s = S[k] := ⟨_, rfl⟩
      rw [← hs] at R HStep
      obtain ⟨c0, c1, c2, c3, c4, c5, c6, c7, c8, c9⟩ := sd_cells R
      obtain ⟨V, hV⟩ : ∃ V, V = U.alloc (.cells #[.int .i64 s.th, .int .i64 s.pl, .int .u8 s.wh.wn, .int .u8 s.wh.vb, .int .u8 s.wh.wm, .int .i64 s.wh.ct, .int .u8 s.wh.su, .int .u8 s.wh.tr, .int .u8 s.wh.mr, .string s.wh.nm] 40) := ⟨_, rfl⟩
      have HGV : Hid (U.grownBy V none) := by rw [hV]; exact World.grownBy_alloc _ _ none
      have HBs : Hid (SdB V U.heap.size s) := by rw [hV]; exact alloc_at _ _ _
      have HOV : Hid (SOwn V W1.heap.size (.slice q L.length cq) L ∧ L.length ≤ k ∧ W1.grownBy V none) := ⟨HO.out.1.grow HGV.out, HO.out.2.1, grown_trans HO.out.2.2 HGV.out⟩
      have hlt' : (k : Int) < S.length := Int.ofNat_lt.2 hlt
      have Hlt : Hid (k < S.length) := hlt
      have hwk := wrap_next (k := k) (Nat.le_trans (Nat.le_of_lt hlt) Hl.out)
      have HM : Hid (S.length - (intOf (.int .i64 ((k : Int) + 1))).toNat < S.length - (intOf (.int .i64 (k : Int))).toNat) := meas_k hlt
      have HFd := lfind_any _ _ X F s V (HT.out.keep HOV.out.2.2)
      unfold FdPost tbv sdv at HFd
      obtain ⟨a0, a1⟩ := tb_box (show TbB V n0 _ _ from grown_keep HOV.out.2.2 HB.out (by simp))
      clear hs R hlt hk HO HI
      go_upto_region 5 with fail
      rw [← hV]
      obtain ⟨nb, hnb⟩ : ∃ nb, nb = U.heap.size := ⟨_, rfl⟩
      rw [← hnb] at HBs ⊢
      clear hV hnb c0 c1 c2 c3 c4 c5 c6 c7 c8 c9
      obtain ⟨s0, s1, s2, s3, s4, s5, s6, s7, s8, s9⟩ := sd_box HBs.out
      cases hff : findF (rws X) s with
      | none =>
        have HX : Hid (listF (rws X) S [] = none) := by show _ = _; rw [HStep.out, hff]
        rw [hff] at HFd
        unfold sev at HFd
        simp only [Option.getD_none, Option.isSome_none] at HFd
        clear hff
        go_wp2_with (go_at_call 222; refine HFd.mono ?_; rintro e5 w5 ⟨rfl, g5⟩; have HG5 : Hid (V.grownBy w5 none) := g5; clear HFd g5 a0 a1 s0 s1 s2 s3 s4 s5 s6 s7 s8 s9)
        go_ret2
        exact LiPost.no HX.out (grown_push (grown_trans HG1.out (grown_trans HOV.out.2.2 HG5.out)) _)
      | some e =>
        rw [hff] at HFd
        unfold sev at HFd
        simp only [Option.getD_some, Option.isSome_some] at HFd
        have HSt2 : Hid (listF (rws X) S [] = if joinsB e L then listF (rws X) (S.drop (k + 1)) (L ++ [e]) else none) := by show _ = _; rw [HStep.out, hff]
        clear hff
        go_wp2_with fail
        refine HFd.mono ?_
        rintro e5 w5 ⟨rfl, g5⟩
        obtain ⟨V6, hV6⟩ : ∃ V6, V6 = w5.alloc (.cells #[.int .i64 e.s.th, .int .i64 e.s.pl, .int .u8 e.s.wh.wn, .int .u8 e.s.wh.vb, .int .u8 e.s.wh.wm, .int .i64 e.s.wh.ct, .int .u8 e.s.wh.su, .int .u8 e.s.wh.tr, .int .u8 e.s.wh.mr, .string e.s.wh.nm, .int .i64 (e.ro : Int)] 167) := ⟨_, rfl⟩
        have HG6 : Hid (V.grownBy V6 none) := by rw [hV6]; exact grown_push g5 _
        have HO6 : Hid (SOwn V6 W1.heap.size (.slice q L.length cq) L ∧ L.length ≤ k ∧ W1.grownBy V6 none) := ⟨HOV.out.1.grow HG6.out, HOV.out.2.1, grown_trans HOV.out.2.2 HG6.out⟩
        have HBe : Hid (SeB V6 w5.heap.size e) := by rw [hV6]; exact alloc_at _ _ _
        have HJ := ljoins_any e (.slice q L.length cq) L V6 HO6.out.1.at (Nat.le_trans HOV.out.2.1 (Nat.le_trans (Nat.le_of_lt Hlt.out) Hl.out))
        obtain ⟨jb, hjb⟩ : ∃ jb, jb = joinsB e L := ⟨_, rfl⟩
        rw [← hjb] at HJ HSt2
        unfold sev at HJ
        clear HFd g5 a0 a1 s0 s1 s2 s3 s4 s5 s6 s7 s8 s9 hjb
        go_upto_region 6 with fail
        rw [← hV6]
        obtain ⟨nc, hnc⟩ : ∃ nc, nc = w5.heap.size := ⟨_, rfl⟩
        rw [← hnc] at HBe ⊢
        clear hV6 hnc
        obtain ⟨o0, o1, o2, o3, o4, o5, o6, o7, o8, o9, o10⟩ := se_box HBe.out
        cases jb with
        | false =>
          have HX : Hid (listF (rws X) S [] = none) := HSt2.out
          go_wp2_with (go_at_call 223; refine HJ.mono ?_; rintro e7 w7 ⟨rfl, g7⟩; have HG7 : Hid (V6.grownBy w7 none) := g7; clear HJ g7 o0 o1 o2 o3 o4 o5 o6 o7 o8 o9 o10)
          go_ret2
          exact LiPost.no HX.out (grown_trans HG1.out (grown_trans HO6.out.2.2 HG7.out))
        | true =>
          have HX : Hid (LiIn (rws X) S (k + 1) (L ++ [e])) := HSt2.out.symm
          go_wp2_with fail
          refine HJ.mono ?_
          rintro e7 w7 ⟨rfl, g7⟩
          have HG7 : Hid (V6.grownBy w7 none) := g7
          have HO7 : Hid (w7.ownsRow W1.heap.size 167 11 (.slice q L.length cq) L.length (seR.cs L)) := HO6.out.1.grow g7
          have HGW : Hid (W1.grownBy w7 none) := grown_trans HO6.out.2.2 g7
          have HBe7 : Hid (SeB w7 nc e) := grown_keep g7 HBe.out (by simp)
          have HLn : Hid (L.length + 1 ≤ maxLen ∧ (L.length + 1) * 64 ≤ 140737488355328) := len_smallS (Nat.le_trans HOV.out.2.1 (Nat.le_trans (Nat.le_of_lt Hlt.out) Hl.out))
          clear HJ g7 o0 o1 o2 o3 o4 o5 o6 o7 o8 o9 o10
          obtain ⟨o0, o1, o2, o3, o4, o5, o6, o7, o8, o9, o10⟩ := se_box HBe7.out
          go_wp2_with (at_builtin; refine lwpl_app (by rfl) (.tmp 31) (.tmp 33) 162 rfl W1.heap.size 167 i0 _ 11 64 Tryz.underlying162 hi hz0 hz1 hz2 rfl (by decide) _ L.length (seR.cs L) rfl (World.ownsRow.alloc HO7.out _) _ 1 (sec e) rfl (se_src w7 e) (sec_ones _) HLn.out.1 HLn.out.2 (by rw [World.size_alloc]; exact Nat.le_succ_of_le HGW.out.size) ?_; intro v8 w8 o8 g8 _; have HO8 : Hid _ := o8; have HG8 : Hid _ := g8; clear o8 g8)
          have HS8 : Hid (SOwn w8 W1.heap.size v8 (L ++ [e]) ∧ (L ++ [e]).length ≤ k + 1 ∧ W1.grownBy w8 none) := ⟨RecT.more HO8.out rfl, by rw [List.length_append, List.length_singleton]; exact Nat.succ_le_succ HOV.out.2.1, grown_own (grown_push HGW.out _) HG8.out (fun y e => (World.ownsRow.lt HO7.out y e).1)⟩
          clear HO8 HG8
          go_roundw
          case rel => exact ⟨k + 1, L ++ [e], Hlt.out, by first | rfl | (rw [hwk]; rfl) | go_num, HS8.out, HX.out⟩
          case measure => first | exact HM.out | (rw [hwk]; exact HM.out)
    · obtain rfl : k = S.length := Nat.le_antisymm hk (Nat.le_of_not_lt hlt)
      have HX : Hid (listF (rws X) S [] = some L) := by
        have q := HI.out
        unfold LiIn at q
        rw [List.drop_length] at q
        exact q.symm
      clear HI hlt hk
      go_wp2_with fail
      go_ret2
      exact ⟨_, _, _, true, rfl, grown_trans HG1.out HO.out.2.2, by rw [HX.out]; rfl, fun L' q => by rw [HX.out] at q; cases q; exact own_big HO.out.1 HG1.out.size⟩
theorem dif_up : ∀ {l : List Int}, (l.Pairwise fun a b => a ≤ b) → dif l = true → l.Pairwise fun a b => a < b
  | [], _, _ => List.Pairwise.nil
  | [a], _, _ => List.pairwise_singleton _ _
  | a :: b :: l, h, d => by
    rw [dif_cons] at d
    simp at d
    have h2 := dif_up (List.pairwise_cons.1 h).2 d.2
    refine List.pairwise_cons.2 ⟨fun c hc => ?_, h2⟩
    have hab : a < b := by have := (List.pairwise_cons.1 h).1 b List.mem_cons_self; omega
    rcases List.mem_cons.1 hc with rfl | hc
    · exact hab
    · have := (List.pairwise_cons.1 h2).1 c hc
      omega
theorem sorted_one {l m : List Int} (hp : l.Perm m) (hl : l.Pairwise fun a b => a ≤ b) (hm : m.Pairwise fun a b => a ≤ b) : l = m :=
  hp.eq_of_pairwise (fun a b _ _ h1 h2 => by omega) hl hm
theorem up_one {l m : List Rw} (hp : l.Perm m) (hl : l.Pairwise fun a b => a.st < b.st) (hm : m.Pairwise fun a b => a.st < b.st) : l = m :=
  hp.eq_of_pairwise (fun a b _ _ h1 h2 => by omega) hl hm
theorem sortR_up (acc : List Rw) : (sortR acc).Pairwise fun a b => a.st ≤ b.st := by
  have := List.pairwise_mergeSort (le := fun (x y : Rw) => decide (x.st ≤ y.st)) (fun a b c h1 h2 => by simp at *; omega) (fun a b => by simp; omega) acc
  exact this.imp fun h => by simpa using h
theorem stamps_up {R : List Rw} (h : R.Pairwise fun a b => a.st ≤ b.st) : (stampsR R).Pairwise fun a b => a ≤ b := by unfold stampsR; rw [List.pairwise_map]; exact h
theorem tab_of {n : Int} {cd : Int → Hd × List Pt} {ts : List Th} {fs : List Fe} {acc R : List Rw} (he : ts.length = fs.length) (ha : layF n cd (ts.zip fs) 0 [] = some acc) (hp : R.Perm acc) (hs : R.Pairwise fun a b => a.st ≤ b.st) : tabR n cd ts fs = if dif (stampsR R) then some R else none := by
  unfold tabR
  rw [if_pos he, ha]
  simp only
  have h1 := sortR_up acc
  have h2 : (sortR acc).Perm acc := List.mergeSort_perm _ _
  have e1 : stampsR (sortR acc) = stampsR R := sorted_one ((h2.trans hp.symm).map _) (stamps_up h1) (stamps_up hs)
  rw [e1]
  cases hd : dif (stampsR R) with
  | false => rfl
  | true =>
    rw [if_pos rfl, if_pos rfl]
    congr 1
    refine up_one (h2.trans hp.symm) ?_ ?_
    · have := dif_up (stamps_up h1) (by rw [e1]; exact hd)
      unfold stampsR at this
      rwa [List.pairwise_map] at this
    · have := dif_up (stamps_up hs) hd
      unfold stampsR at this
      rwa [List.pairwise_map] at this
theorem tab_no {n : Int} {cd : Int → Hd × List Pt} {ts : List Th} {fs : List Fe} (h : ts.length ≠ fs.length ∨ layF n cd (ts.zip fs) 0 [] = none) : tabR n cd ts fs = none := by
  unfold tabR
  by_cases he : ts.length = fs.length
  · rw [if_pos he]
    rcases h with h | h
    · exact absurd he h
    · rw [h]
  · rw [if_neg he]
theorem LayPost.tab {w w' : World} {n : Int} {cd : Int → Hd × List Pt} {ts : List Th} {fs : List Fe} {e : Ending} (h : LayPost w n cd ts fs e w') : ∃ p1 m1 c1 p2 m2 c2, e = .returned (.tuple #[tbv (.slice p1 m1 c1) (.slice p2 m2 c2), .bool (tabR n cd ts fs).isSome]) ∧ w.grownBy w' none ∧ ∀ R, tabR n cd ts fs = some R → ∃ X, rws X = R ∧ TbO w' w.heap.size (.slice p1 m1 c1) (.slice p2 m2 c2) X (pickF R fs) ∧ ∀ x ∈ X, 1 ≤ x.r.nu ∧ x.r.nu ≤ (fs.length : Int) := by
  obtain ⟨p1, m1, c1, p2, m2, c2, b, rfl, g, h⟩ := h
  rcases h with ⟨rfl, h⟩ | ⟨acc, X, he, ha, hp, hs, rfl, T, hn⟩
  · refine ⟨p1, m1, c1, p2, m2, c2, by rw [tab_no h]; rfl, g, fun R q => ?_⟩
    rw [tab_no h] at q
    cases q
  · have ht := tab_of he ha hp hs
    cases hd : dif (stampsR (rws X)) with
    | false =>
      rw [hd] at ht
      refine ⟨p1, m1, c1, p2, m2, c2, by rw [ht]; rfl, g, fun R q => ?_⟩
      rw [ht] at q
      cases q
    | true =>
      rw [hd] at ht
      refine ⟨p1, m1, c1, p2, m2, c2, by rw [ht]; rfl, g, fun R q => ?_⟩
      rw [ht] at q
      cases q
      exact ⟨X, rfl, T, hn⟩
end Go.Proofs.YthfjgpjcepmnmaaGreat
