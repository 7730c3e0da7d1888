/-
  deck.Parse, of every book and text.
-/
import Derived.Test.YtbcggjacjfcldaaGreatDoorD23
import Derived.Laws.CopyOwn
import Derived.OwnWalk
import Derived.WalkMore
namespace Go.Proofs.YtbcggjacjfcldaaGreatDoor
open Go.RowKit

/-- The cards so far, in an array of 41. -/
def CaAt (w : World) (g : Nat) (out : List Int) : Prop := ∃ J : List Value, out.length + J.length = 41 ∧ w.heap[g]? = some (.cells (ints out ++ J).toArray 85 (0, 0))
theorem CaAt.keepR {w w' : World} {g : Nat} {out : List Int} {r : Option Nat} (h : CaAt w g out) (x : w.grownBy w' r) (hr : some g ≠ r) : CaAt w' g out := by
  obtain ⟨J, h1, h2⟩ := h
  exact ⟨J, h1, grown_keep x h2 hr⟩
theorem CaAt.free {w : World} {g : Nat} {out : List Int} (h : CaAt w g out) (i : Nat) : w.frozen? ⟨g, i, none⟩ = false := by
  obtain ⟨J, _, h⟩ := h
  exact block_free h i
theorem CaAt.any {w : World} {g : Nat} {out : List Int} (h : CaAt w g out) {i : Nat} (hi : i < 41) : ∃ u, w.cell? ⟨g, i, none⟩ = some u := by
  obtain ⟨J, h1, h2⟩ := h
  have hl : i < (ints out ++ J).length := by rw [List.length_append, length_ints]; omega
  exact ⟨(ints out ++ J)[i], by rw [block_cell h2 i]; simp⟩
theorem CaAt.put {w : World} {g : Nat} {out : List Int} (h : CaAt w g out) (hl : out.length < 41) (x : Int) : CaAt (w.setCell ⟨g, out.length, none⟩ (.int .i64 x)) g (out ++ [x]) := by
  obtain ⟨J, h1, h2⟩ := h
  cases J with
  | nil => simp at h1; omega
  | cons j J =>
    refine ⟨J, by simp at h1 ⊢; omega, ?_⟩
    rw [block_set h2]
    congr 2
    have e : (ints out ++ j :: J).set out.length (.int .i64 x) = ints (out ++ [x]) ++ J := by
      rw [List.set_append_right _ _ (by rw [length_ints]; exact Nat.le_refl _), length_ints, Nat.sub_self]
      simp [ints]
    rw [← e]
    simp
theorem CaAt.cells {w : World} {g : Nat} {out : List Int} (h : CaAt w g out) : ∀ j u, (ints out)[j]? = some u → w.cell? ((⟨g, 0, none⟩ : Addr).add j) = some u := fun j u hu => by
  obtain ⟨J, _, h2⟩ := h
  rw [add_plain, Nat.zero_add, block_cell h2 j, List.getElem?_toArray, List.getElem?_append_left (List.getElem?_eq_some_iff.1 hu).1]
  exact hu
theorem zero41 : (#[.int .i64 0, .int .i64 0, .int .i64 0, .int .i64 0, .int .i64 0, .int .i64 0, .int .i64 0, .int .i64 0, .int .i64 0, .int .i64 0, .int .i64 0, .int .i64 0, .int .i64 0, .int .i64 0, .int .i64 0, .int .i64 0, .int .i64 0, .int .i64 0, .int .i64 0, .int .i64 0, .int .i64 0, .int .i64 0, .int .i64 0, .int .i64 0, .int .i64 0, .int .i64 0, .int .i64 0, .int .i64 0, .int .i64 0, .int .i64 0, .int .i64 0, .int .i64 0, .int .i64 0, .int .i64 0, .int .i64 0, .int .i64 0, .int .i64 0, .int .i64 0, .int .i64 0, .int .i64 0, .int .i64 0] : Array Value) = (ints [] ++ List.replicate 41 (Value.int .i64 0)).toArray := rfl
theorem block_ownB {V : World} {base g N : Nat} {l : List Int} (h : V.heap[g]? = some (.cells (ints l).toArray 3 (0, 0))) (hb : base ≤ g) (hl : l.length = N) (hN : N ≤ maxLen) : V.ownsRow base 3 1 (.slice (some ⟨g, 0, none⟩) N N) N (ints l) :=
  ⟨by rw [length_ints, Nat.mul_one, hl], Or.inr ⟨g, N, _, rfl, hb, h, Nat.le_refl _, hN, by simp [length_ints, hl], by simp [← hl, length_ints, List.take_of_length_le]⟩⟩
theorem made_blockB {w V : World} {N : Nat} {xs : List Value} (h : V.ownsRow w.heap.size 3 1 (.slice (some ⟨w.heap.size, 0, none⟩) N N) N xs) : ∃ Z : List Value, Z.length = N ∧ V.heap[w.heap.size]? = some (.cells Z.toArray 3 (0, 0)) := by
  rcases h.2 with ⟨h', _⟩ | ⟨g, cap, cur, h', hb, hh, hn, hm, hs, ht⟩
  · simp at h'
  · simp at h'
    obtain ⟨rfl, rfl⟩ := h'
    exact ⟨cur.toList, by simp [hs], by simpa using hh⟩
theorem grown_belowB {w w' : World} (h : w.grownBy w' none) : Below w.heap.size w w' := ⟨h.os, h.tape, h.output, h.size, fun k hk => h.block k hk (by simp)⟩
theorem splice_all {α : Type} (Z A : List α) (h : Z.length = A.length) : splice Z 0 A = A := by
  unfold splice
  simp [h]
theorem intsB_one (l : List Int) : ∀ u ∈ ints l, u.oneCell' = true := fun u hu => by
  obtain ⟨z, _, rfl⟩ := List.mem_map.1 hu
  rfl
theorem Tryz.info3d : (Tryz.prog.info? 3).map (fun i => (i.zero, i.size, i.bytes)) = some (some (.int .i64 0), 1, 8) := by kernel_rfl
theorem rep_next (out : List Int) (j : Nat) (x : Int) : out ++ List.replicate j x ++ [x] = out ++ List.replicate (j + 1) x := by
  rw [List.append_assoc, List.replicate_succ', ]
set_option maxHeartbeats 4000000 in
set_option maxRecDepth 100000 in
theorem pparse_open (ok : Nat → Prop) (b : Nat) (es : List Ent) (p : Pl) (s : ByteArray) (w : World) (B : Book ok w b es p) (hp : p.shut = false) : Calls Tryz.prog 12 #[.pointer (some ⟨b, 0, none⟩), .string s] w fun e w' => e = .returned (.tuple #[.slice none 0 0, .agg #[.int .i64 2, .int .i64 (-1)]]) ∧ w.grownBy w' none := by
  obtain ⟨W1, hW1⟩ : ∃ W1, W1 = w.alloc (.cells #[.int .i64 0, .int .i64 0] 34) := ⟨_, rfl⟩
  have HG1 : Hid (w.grownBy W1 none) := by rw [hW1]; exact World.grownBy_alloc _ _ none
  have HF1 : Hid (FAt W1 w.heap.size 0 0) := by rw [hW1]; exact alloc_at w _ _
  have HR := refusal_book ok b es p false hp W1 (B.keep HG1.out)
  clear B hp
  go_enter Tryz.func12, Tryz.ntmps12
  go_wp2_with fail
  rw [← hW1]
  clear hW1
  go_step3
  go_wp2_with fail
  refine HR.mono ?_
  rintro e w2 ⟨rfl, g2⟩
  have HG2 : Hid (W1.grownBy w2 none) := g2
  have HN := nowhere_any 2 w2
  clear g2 HR
  go_wp2_with fail
  refine HN.mono ?_
  rintro e w3 ⟨rfl, g3⟩
  have HG3 : Hid (w.grownBy w3 none) := grown_trans HG1.out (grown_trans HG2.out g3)
  have F3 := HF1.out.keep (grown_trans HG2.out g3)
  have c0 := F3.c0
  have c1 := F3.c1
  have f0 := F3.free 0
  have f1 := F3.free 1
  clear g3 HN F3 HF1 HG1 HG2
  go_wp2
  try rw [Exit.noGoto_ret]
  refine bodyPost_ret (v := .tuple #[.slice none 0 0, .agg #[.int .i64 2, .int .i64 (-1)]]) (by simp [results, Tryz.results12, go_sem, c0, c1]) rfl ⟨rfl, ?_⟩
  exact ret_f2 HG3.out _ _ (Nat.le_refl _)
set_option maxHeartbeats 8000000 in
set_option maxRecDepth 100000 in
theorem pparse_run (ok : Nat → Prop) (b : Nat) (es : List Ent) (p : Pl) (s0 : ByteArray) (w : World) (B : Book ok w b es p) (hp : p.shut = true) (hs : s0.size ≤ 140737488355328) (L : LibAt w) : Calls Tryz.prog 12 #[.pointer (some ⟨b, 0, none⟩), .string s0] w (PaPost (dpar (names es) (s0.size + 1) s0.data.toList 0 0 []) w) := by
  obtain ⟨i0, hi, hz0, hz1, hz2⟩ := info_parts Tryz.info3d
  obtain ⟨W1, hW1⟩ : ∃ W1, W1 = w.alloc (.cells #[.int .i64 0, .int .i64 0] 34) := ⟨_, rfl⟩
  have HG1 : Hid (w.grownBy W1 none) := by rw [hW1]; exact World.grownBy_alloc _ _ none
  have HF1 : Hid (FAt W1 w.heap.size 0 0) := by rw [hW1]; exact alloc_at w _ _
  have HR := refusal_book ok b es p true hp W1 (B.keep HG1.out)
  have HB : Hid (Book ok w b es p) := B
  have HLb : Hid (LibAt w) := L
  have HP : Hid (p.shut = true ∧ (names es).length = es.length) := ⟨hp, names_len es⟩
  have H0 := PaIn.start (names es) s0
  obtain ⟨D, hD⟩ : ∃ D, D = dpar (names es) (s0.size + 1) s0.data.toList 0 0 [] := ⟨_, rfl⟩
  rw [← hD] at H0 ⊢
  have HS0 : Hid (s0.size ≤ 140737488355328) := hs
  have HP0 : Hid (PaIn (names es) s0.size D s0 0 0 []) := H0
  have Hinfo : Hid (i0.bytes = 8) := hz2
  clear B hp hs H0 L hD
  go_enter Tryz.func12, Tryz.ntmps12
  go_wp2_with fail
  rw [← hW1]
  clear hW1
  go_step3
  go_wp2_with fail
  refine HR.mono ?_
  rintro e w2 ⟨rfl, g2⟩
  obtain ⟨W3, hW3⟩ : ∃ W3, W3 = w2.alloc (.cells #[.int .i64 0, .int .i64 0, .int .i64 0, .int .i64 0, .int .i64 0, .int .i64 0, .int .i64 0, .int .i64 0, .int .i64 0, .int .i64 0, .int .i64 0, .int .i64 0, .int .i64 0, .int .i64 0, .int .i64 0, .int .i64 0, .int .i64 0, .int .i64 0, .int .i64 0, .int .i64 0, .int .i64 0, .int .i64 0, .int .i64 0, .int .i64 0, .int .i64 0, .int .i64 0, .int .i64 0, .int .i64 0, .int .i64 0, .int .i64 0, .int .i64 0, .int .i64 0, .int .i64 0, .int .i64 0, .int .i64 0, .int .i64 0, .int .i64 0, .int .i64 0, .int .i64 0, .int .i64 0, .int .i64 0] 85) := ⟨_, rfl⟩
  have HG3 : Hid (w.grownBy W3 none) := by rw [hW3]; exact grown_push (grown_trans HG1.out g2) _
  have HF3 : Hid (FAt W3 w.heap.size 0 0) := by rw [hW3]; exact (HF1.out.keep g2).keep (World.grownBy_alloc _ _ none)
  have HT3 : Hid (CaAt W3 w2.heap.size []) := ⟨List.replicate 41 (.int .i64 0), by simp, by rw [hW3, ← zero41]; exact alloc_at w2 _ _⟩
  have HS3 : Hid (w.heap.size < w2.heap.size) := block_lt (HF1.out.keep g2)
  clear HR g2 HG1 HF1
  go_upto_region 5 with fail
  rw [← hW3]
  clear hW3
  obtain ⟨G, hG⟩ : ∃ G, G = w2.heap.size := ⟨_, rfl⟩
  rw [← hG] at HT3 HS3 ⊢
  clear hG
  obtain ⟨r, hr⟩ : ∃ r, r = w.heap.size := ⟨_, rfl⟩
  rw [← hr] at HF3 HS3 ⊢
  have HRr : Hid (r = w.heap.size) := hr
  clear hr
  go_wp2_with fail
  go_step3
  go_wp2_with fail
  go_loopw [1, 8, 9, 10, 11, 12, 13, 14, 15, 16, 17, 18, 56, 62, 69] (fun x1 x8 x9 x10 _ _ _ _ _ _ _ _ _ _ _ wr => ∃ (s : ByteArray) (m i : Nat) (last : Int) (out : List Int), x1 = .string s ∧ x8 = .int .i64 (m : Int) ∧ x9 = .int .i64 last ∧ x10 = .int .i64 (i : Int) ∧ Hid (out.length = m) ∧ Hid (w.grownBy wr none ∧ FAt wr r 0 0 ∧ CaAt wr G out ∧ PaIn (names es) s0.size D s i last out)) (fun x1 _ _ _ _ _ _ _ _ _ _ _ _ _ _ _ => strLen x1)
  case atStart => exact ⟨s0, 0, 0, 0, [], rfl, rfl, rfl, rfl, rfl, HG3.out, HF3.out, HT3.out, HP0.out⟩
  case round =>
    obtain ⟨s, m, i, last, out, rfl, rfl, rfl, rfl, HM, HI⟩ := hrel
    clear HG3 HF3 HT3 HP0
    by_cases h0 : s.size = 0
    · have hse : s = ⟨#[]⟩ := by rcases s with ⟨⟨l⟩⟩; have : l = [] := List.eq_nil_of_length_eq_zero h0; rw [this]
      have HX : Hid (D = .inr out) := HI.out.2.2.2.done h0
      have hm40 : m ≤ 40 := by rw [← HM.out]; exact HI.out.2.2.2.le
      have HM41 : Hid (m ≤ 41) := by show m ≤ 41; omega
      have hm : ¬ (40 : Int) < (m : Int) := by omega
      have hm0 : (0 : Int) ≤ (m : Int) := by omega
      have Hbb : Hid (i0.bytes * m ≤ 281474976710656) := by show i0.bytes * m ≤ _; rw [Hinfo.out]; omega
      have Hbm : Hid (m ≤ maxLen) := by show m ≤ maxLen; unfold maxLen; omega
      subst hse
      clear h0 hm40
      go_wp2_with (first | (at_make; refine wpList_make_full _ rfl _ _ 26 rfl wr.heap.size 3 i0 _ 1 Tryz.underlying26 hi hz0 hz1 .i64 .i64 _ _ m rfl rfl rfl rfl Hbb.out Hbm.out (Nat.le_refl _) ?_; intro V o1 gv; obtain ⟨Z, hZ, hV⟩ := made_blockB o1; have HZ : Hid (Z.length = m) := hZ; have HV : Hid (V.heap[wr.heap.size]? = some (.cells Z.toArray 3 (0, 0))) := hV; have HGV : Hid (wr.grownBy V none) := gv; clear o1 gv hZ hV) | (refine wpList_copy_splice rfl (.tmp 86) (.tmp 87) 26 26 rfl 3 Tryz.underlying26 (by kernel_rfl) (some ⟨wr.heap.size, 0, none⟩) (some ⟨G, 0, none⟩) m m 41 41 rfl rfl wr.heap.size 0 Z 3 HV.out (ints out) (by rw [length_ints, HM.out]; exact (Nat.min_eq_right HM41.out).symm) (fun _ => ⟨rfl, _, rfl, (HI.out.2.2.1.keepR HGV.out (by simp)).cells⟩) (by rw [length_ints, HM.out, HZ.out]; omega) (intsB_one out) wr.heap.size wr (grown_belowB HGV.out) (Nat.le_refl _) ?_; intro V2 hV2 hG2; have HG2 : Hid (wr.grownBy V2 none) := below_grown hG2; have F2 := HI.out.2.1.keep HG2.out; have c0 := F2.c0; have c1 := F2.c1; have f0 := F2.free 0; have f1 := F2.free 1; clear hG2 F2) | fail)
      try rw [Exit.noGoto_ret]
      refine bodyPost_ret (v := .tuple #[.slice (some ⟨wr.heap.size, 0, none⟩) m m, .agg #[.int .i64 0, .int .i64 0]]) (by simp [results, Tryz.results12, go_sem, c0, c1]) rfl (PaPost.list (l := out) (ret_f2 (grown_trans HI.out.1 HG2.out) _ _ (by rw [HRr.out]; exact Nat.le_refl _)) HX.out ?_)
      have hV3 := hV2.out
      rw [splice_all Z (ints out) (by rw [length_ints, HM.out, HZ.out])] at hV3
      have hrw : r < wr.heap.size := block_lt HI.out.2.1
      rw [HM.out]
      exact block_ownB (grown_keep (grown_put2 V2 r 0 0) hV3 (fun e => by cases e; omega)) (by have := HRr.out; omega) HM.out Hbm.out
    · have HLn : Hid (LnIn (names es) s0.size D s i last out) := HI.out.2.2.2.line h0
      have hs1 : (s.toList == []) = false := by
        rw [Lib.toList_data]
        cases hl : s.data.toList with
        | nil => exact absurd (by have : s.data.toList.length = s.size := rfl; rw [hl] at this; exact this.symm) h0
        | cons c r => rfl
      have hs2 : (([] : List UInt8) == s.toList) = false := by
        rw [Lib.toList_data]
        cases hl : s.data.toList with
        | nil => exact absurd (by have : s.data.toList.length = s.size := rfl; rw [hl] at this; exact this.symm) h0
        | cons c r => rfl
      have hss : i + s.size ≤ 140737488355328 := by have h1 := HI.out.2.2.2.sz; have h2 := HS0.out; omega
      have HC := cut_10 s (by omega) wr
      have hla : (cutA 10 s).size ≤ 140737488355328 := by
        have h1 : (cutA 10 s).size = (cutL 10 s.data.toList).1.length := rfl
        have h2 : (cutL 10 s.data.toList).1.length ≤ s.data.toList.length := by rw [(cut_ten s.data.toList).1]; exact (List.takeWhile_sublist _).length_le
        have h3 : s.data.toList.length = s.size := rfl
        omega
      obtain ⟨ln, hln⟩ : ∃ ln, ln = cutA 10 s := ⟨_, rfl⟩
      obtain ⟨rs, hrs⟩ : ∃ rs, rs = cutR 10 s := ⟨_, rfl⟩
      obtain ⟨en, hen⟩ : ∃ en, en = cutM 10 s := ⟨_, rfl⟩
      rw [← hln] at hla
      rw [← hln, ← hrs, ← hen] at HC
      have HE : Hid (ln = cutA 10 s ∧ rs = cutR 10 s ∧ en = cutM 10 s) := ⟨hln, hrs, hen⟩
      have HRl := fun (W : World) (h : LibAt W) => readLine_any ln hla W h
      have HSs : Hid (i + s.size ≤ 140737488355328 ∧ 0 < s.size) := ⟨hss, by omega⟩
      have HL40 : Hid (out.length ≤ 40) := HI.out.2.2.2.le
      clear hln hrs hen hla h0 hss
      go_wp2_with fail
      refine HC.mono ?_
      rintro e w4 ⟨rfl, g4⟩
      have HI4 : Hid (w.grownBy w4 none ∧ FAt w4 r 0 0 ∧ CaAt w4 G out) := ⟨grown_trans HI.out.1 g4, HI.out.2.1.keep g4, HI.out.2.2.1.keepR g4 (by simp)⟩
      have HR4 := HRl w4 (HLb.out.keep HI4.out.1)
      clear g4 HC HRl HI
      go_wp2_with fail
      refine HR4.mono ?_
      intro e w5 Q5
      obtain ⟨T, nm, okb, rfl, hok, hlp, g5⟩ := Q5
      have HI5 : Hid (w.grownBy w5 none ∧ FAt w5 r 0 0 ∧ CaAt w5 G out) := ⟨grown_trans HI4.out.1 g5, HI4.out.2.1.keep g5, HI4.out.2.2.keepR g5 (by simp)⟩
      have HOk : Hid (okb = (lineP ln.data.toList).isSome) := hok
      have HLp : Hid (∀ k x, lineP ln.data.toList = some (k, x) → T = (k : Int) ∧ nm = ⟨x.toArray⟩) := hlp
      clear g5 HR4 HI4 hok hlp
      cases en with
      | false =>
        have HX : Hid (D = .inl (260, (i : Int))) := HLn.out.noend HE.out.2.2.symm
        have c0 := HI5.out.2.1.c0
        have c1 := HI5.out.2.1.c1
        have f0 := HI5.out.2.1.free 0
        have f1 := HI5.out.2.1.free 1
        have HGo : Hid (w.grownBy w5 none) := HI5.out.1
        clear HI5 HLn HE HOk HLp
        go_wp2
        try rw [Exit.noGoto_ret]
        refine bodyPost_ret (v := .tuple #[.slice none 0 0, .agg #[.int .i64 260, .int .i64 (i : Int)]]) (by simp [results, Tryz.results12, go_sem, c0, c1]) rfl (PaPost.fault (ret_f2 HGo.out _ _ (by rw [HRr.out]; exact Nat.le_refl _)) HX.out)
      | true =>
        cases hlq : lineP ln.data.toList with
        | none =>
          have hob : okb = false := by rw [HOk.out, hlq]; rfl
          have HX : Hid (D = .inl (260, (i : Int))) := HLn.out.none (by rw [← HE.out.1]; exact hlq)
          have c0 := HI5.out.2.1.c0
          have c1 := HI5.out.2.1.c1
          have f0 := HI5.out.2.1.free 0
          have f1 := HI5.out.2.1.free 1
          have HGo : Hid (w.grownBy w5 none) := HI5.out.1
          subst hob
          clear HI5 HLn HE HOk HLp hlq
          go_wp2
          try rw [Exit.noGoto_ret]
          refine bodyPost_ret (v := .tuple #[.slice none 0 0, .agg #[.int .i64 260, .int .i64 (i : Int)]]) (by simp [results, Tryz.results12, go_sem, c0, c1]) rfl (PaPost.fault (ret_f2 HGo.out _ _ (by rw [HRr.out]; exact Nat.le_refl _)) HX.out)
        | some kx =>
          obtain ⟨k, x⟩ := kx
          have hob : okb = true := by rw [HOk.out, hlq]; rfl
          obtain ⟨hT, hnm⟩ := HLp.out k x hlq
          have hk := lineP_some hlq
          have HK : Hid (1 ≤ k ∧ k ≤ 40) := ⟨hk.2.1, hk.2.2.1⟩
          subst hob
          subst hT
          subst hnm
          have HQ : Hid (lineP (cutA 10 s).data.toList = some (k, x) ∧ cutM 10 s = true) := ⟨by rw [← HE.out.1]; exact hlq, HE.out.2.2.symm⟩
          have B5 := HB.out.keep HI5.out.1
          have HFd := find_yes b es p ⟨x.toArray⟩ w5 B5.lies B5.good.slc
          rw [HP.out.1] at HFd
          have hpl := pos_low (names es) ⟨x.toArray⟩
          obtain ⟨q, hq⟩ : ∃ q, q = pos (names es) ⟨x.toArray⟩ := ⟨_, rfl⟩
          rw [← hq] at HFd hpl
          have HQp : Hid (q = pos (names es) ⟨x.toArray⟩) := hq
          obtain ⟨nb, hnb⟩ : ∃ nb : ByteArray, nb = ⟨x.toArray⟩ := ⟨_, rfl⟩
          rw [← hnb] at HFd ⊢
          clear hq hlq hk B5 HOk HLp hnb
          by_cases hq0 : q < 0
          · rw [show fndN true q = 0 from if_neg (fun h => by omega), show fndE true q = 6 from if_neg (fun h => by omega)] at HFd
            have HX : Hid (D = .inl (6, (i : Int))) := HLn.out.miss k x HQ.out.1 HQ.out.2 (by rw [← HQp.out]; exact hq0)
            clear hq0 hpl HLn
            go_wp2_with fail
            refine HFd.mono ?_
            rintro e w6 ⟨rfl, g6⟩
            have HI6 : Hid (w.grownBy w6 none ∧ FAt w6 r 0 0 ∧ CaAt w6 G out) := ⟨grown_trans HI5.out.1 g6, HI5.out.2.1.keep g6, HI5.out.2.2.keepR g6 (by simp)⟩
            have c0 := HI6.out.2.1.c0
            have c1 := HI6.out.2.1.c1
            have f0 := HI6.out.2.1.free 0
            have f1 := HI6.out.2.1.free 1
            have HGo : Hid (w.grownBy w6 none) := HI6.out.1
            clear HI5 HI6 g6 HFd
            go_wp2
            try rw [Exit.noGoto_ret]
            refine bodyPost_ret (v := .tuple #[.slice none 0 0, .agg #[.int .i64 6, .int .i64 (i : Int)]]) (by simp [results, Tryz.results12, go_sem, c0, c1]) rfl (PaPost.fault (ret_f2 HGo.out _ _ (by rw [HRr.out]; exact Nat.le_refl _)) HX.out)
          · rw [show fndN true q = q + 1 from if_pos ⟨rfl, by omega⟩, show fndE true q = 0 from if_pos ⟨rfl, by omega⟩] at HFd
            obtain ⟨n, hn⟩ : ∃ n, n = q + 1 := ⟨_, rfl⟩
            rw [← hn] at HFd
            have HN : Hid (n = pos (names es) ⟨x.toArray⟩ + 1 ∧ 0 ≤ pos (names es) ⟨x.toArray⟩) := ⟨by rw [hn, HQp.out], by rw [← HQp.out]; omega⟩
            clear hq0 hpl hn HQp
            go_wp2_with fail
            refine HFd.mono ?_
            rintro e w6 ⟨rfl, g6⟩
            have HI6 : Hid (w.grownBy w6 none ∧ FAt w6 r 0 0 ∧ CaAt w6 G out) := ⟨grown_trans HI5.out.1 g6, HI5.out.2.1.keep g6, HI5.out.2.2.keepR g6 (by simp)⟩
            clear HI5 g6 HFd
            by_cases hnl : n = last
            · have hnb2 : (n == last) = true := by simpa using hnl
              have HX : Hid (D = .inl (260, (i : Int))) := HLn.out.same k x HQ.out.1 HQ.out.2 (by have := HN.out.2; omega) (by rw [← HN.out.1]; exact hnl)
              have c0 := HI6.out.2.1.c0
              have c1 := HI6.out.2.1.c1
              have f0 := HI6.out.2.1.free 0
              have f1 := HI6.out.2.1.free 1
              have HGo : Hid (w.grownBy w6 none) := HI6.out.1
              clear HI6 HLn hnl
              go_wp2
              try rw [Exit.noGoto_ret]
              refine bodyPost_ret (v := .tuple #[.slice none 0 0, .agg #[.int .i64 260, .int .i64 (i : Int)]]) (by simp [results, Tryz.results12, go_sem, c0, c1]) rfl (PaPost.fault (ret_f2 HGo.out _ _ (by rw [HRr.out]; exact Nat.le_refl _)) HX.out)
            · have hnb2 : (n == last) = false := by simpa using hnl
              have HNl : Hid (¬ pos (names es) ⟨x.toArray⟩ + 1 = last) := by show ¬ _; rw [← HN.out.1]; exact hnl
              clear hnl
              go_wp2_with fail
              obtain ⟨wz, hwz⟩ : ∃ wz, wz = wr := ⟨_, rfl⟩
              subst hwz
              go_loopw [8, 69] (fun x8 x69 wr => ∃ j c : Nat, j ≤ k ∧ x69 = .int .i64 (j : Int) ∧ x8 = .int .i64 (c : Int) ∧ Hid (c = m + j ∧ c ≤ 40) ∧ Hid (w.grownBy wr none ∧ FAt wr r 0 0 ∧ CaAt wr G (out ++ List.replicate j n))) (fun _ x69 _ => k - (intOf x69).toNat)
              case atStart => exact ⟨0, m, Nat.zero_le _, rfl, rfl, ⟨rfl, by have h1 := HM.out; have h2 := HL40.out; omega⟩, HI6.out.1, HI6.out.2.1, by simpa using HI6.out.2.2⟩
              case round =>
                obtain ⟨j, c, hjk, rfl, rfl, HCc, HJ⟩ := hrel
                clear HI6
                rcases (show j = k ∨ j < k from by omega) with e | hlt
                · have hlt' : ¬ (j : Int) < (k : Int) := by omega
                  have HFin : Hid (PaIn (names es) s0.size D rs (i + 1) n (out ++ List.replicate k n) ∧ rs.size < s.size ∧ (out ++ List.replicate k n).length = c) := by
                    have h1 := HLn.out.next k x HQ.out.1 HQ.out.2 (by have := HN.out.2; omega) HNl.out (by have h1 := HCc.out; have h2 := HM.out; omega)
                    have h2 := HLn.out.short HQ.out.2
                    rw [← HN.out.1, ← HE.out.2.1] at h1
                    rw [← HE.out.2.1] at h2
                    exact ⟨h1, h2, by rw [List.length_append, List.length_replicate, HM.out]; have := HCc.out; omega⟩
                  have HJk : Hid (w.grownBy wr none ∧ FAt wr r 0 0 ∧ CaAt wr G (out ++ List.replicate k n)) := by rw [← e]; exact HJ.out
                  have HWi : Hid (wrap64 ((i : Int) + 1) = ((i + 1 : Nat) : Int)) := by show _ = _; unfold wrap64; have := HSs.out; omega
                  clear e HJ HLn HQ HNl
                  go_wp2_with fail
                  exact ⟨⟨rs, c, i + 1, n, out ++ List.replicate k n, rfl, rfl, rfl, by rw [HWi.out], HFin.out.2.2, HJk.out.1, HJk.out.2.1, HJk.out.2.2, HFin.out.1⟩, HFin.out.2.1⟩
                · have hlt' : (j : Int) < (k : Int) := by omega
                  have hc0 : (0 : Int) ≤ (c : Int) := by omega
                  have hc1 : (c : Int) < 41 := by have := HCc.out; omega
                  have hcl : (out ++ List.replicate j n).length = c := by rw [List.length_append, List.length_replicate, HM.out]; exact HCc.out.1.symm
                  obtain ⟨u, hu⟩ := HJ.out.2.2.any (i := c) (by omega)
                  have hfr := HJ.out.2.2.free c
                  have HPut : Hid (CaAt (wr.setCell ⟨G, c, none⟩ (.int .i64 n)) G (out ++ List.replicate (j + 1) n)) := by
                    have := HJ.out.2.2.put (by rw [hcl]; omega) n
                    rw [hcl, rep_next] at this
                    exact this
                  have HG7 : Hid (w.grownBy (wr.setCell ⟨G, c, none⟩ (.int .i64 n)) none) := grown_own HJ.out.1 (grown_set _ _ _ _) (fun x e => by cases e; have h1 := HS3.out; have h2 := HRr.out; omega)
                  have HF7 : Hid (FAt (wr.setCell ⟨G, c, none⟩ (.int .i64 n)) r 0 0) := HJ.out.2.1.keepR (grown_set _ _ _ _) (fun e => by cases e; have h1 := HS3.out; omega)
                  clear hcl
                  by_cases h40 : c = 40
                  · have HX : Hid (D = .inl (9, -1)) := HLn.out.full k x HQ.out.1 HQ.out.2 (by have := HN.out.2; omega) HNl.out (by have h1 := HCc.out.1; have h2 := HM.out; omega)
                    subst h40
                    obtain ⟨W7, hW7⟩ : ∃ W7, W7 = wr.setCell ⟨G, 40, none⟩ (.int .i64 n) := ⟨_, rfl⟩
                    rw [← hW7] at HG7 HF7
                    have HN9 := nowhere_any 9 W7
                    clear HCc HPut HJ HLn HQ HNl
                    go_upto_region 21 with fail
                    rw [← hW7]
                    clear hW7
                    go_wp2_with fail
                    refine HN9.mono ?_
                    rintro e w8 ⟨rfl, g8⟩
                    have F8 := HF7.out.keep g8
                    have c0 := F8.c0
                    have c1 := F8.c1
                    have f0 := F8.free 0
                    have f1 := F8.free 1
                    have HGo : Hid (w.grownBy w8 none) := grown_trans HG7.out g8
                    clear g8 HN9 F8 HG7 HF7
                    go_wp2
                    try rw [Exit.noGoto_ret]
                    refine bodyPost_ret (v := .tuple #[.slice none 0 0, .agg #[.int .i64 9, .int .i64 (-1)]]) (by simp [results, Tryz.results12, go_sem, c0, c1]) rfl (PaPost.fault (ret_f2 HGo.out _ _ (by rw [HRr.out]; exact Nat.le_refl _)) HX.out)
                  · have HWc : Hid (wrap64 ((c : Int) + 1) = ((c + 1 : Nat) : Int)) := by show _ = _; unfold wrap64; omega
                    have hne : ((c : Int) + 1 == 41) = false := by simp; omega
                    have HC2 : Hid (c + 1 = m + (j + 1) ∧ c + 1 ≤ 40) := ⟨by have := HCc.out; omega, by have := HCc.out; omega⟩
                    have hsk : Small k := by unfold Small; have := HK.out; omega
                    clear h40 HCc HJ HLn HQ HNl
                    go_wp2_with fail
                    go_roundw
                    case rel => exact ⟨j + 1, c + 1, hlt, by first | rfl | (rw [hsk.wrap hlt]; rfl), by first | rfl | (rw [HWc.out]), HC2, HG7.out, HF7.out, HPut.out⟩
                    case measure => first | exact meas_next hlt | (rw [hsk.wrap hlt]; exact meas_next hlt)
theorem pparse_any (ok : Nat → Prop) (b : Nat) (es : List Ent) (p : Pl) (s : ByteArray) (w : World) (B : Book ok w b es p) (hs : s.size ≤ 140737488355328) (L : LibAt w) : Calls Tryz.prog 12 #[.pointer (some ⟨b, 0, none⟩), .string s] w (PaPost (paD p es s.data.toList) w) := by
  unfold paD
  cases hp : p.shut with
  | false => exact (pparse_open ok b es p s w B hp).mono fun e w' h => by rw [h.1]; exact PaPost.fault h.2 rfl
  | true =>
    rw [if_pos rfl]
    exact pparse_run ok b es p s w B hp hs L
end Go.Proofs.YtbcggjacjfcldaaGreatDoor
