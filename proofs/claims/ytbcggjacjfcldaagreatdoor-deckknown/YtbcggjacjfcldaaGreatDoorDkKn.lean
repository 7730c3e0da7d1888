/-
  DeckKnown: the document's examples.
-/
import Derived.Test.YtbcggjacjfcldaaGreatDoorD28
import Derived.Test.YtbcggjacjfcldaaGreatDoorDkU
import Derived.BigQuiet
namespace Go.Proofs.YtbcggjacjfcldaaGreatDoor
open Go.RowKit

theorem kn1 : dchk 2 (fun _ => false) (List.replicate 11 0) = (9, -1) := by decide +kernel
theorem kn2 : dchk 2 (fun _ => false) (List.replicate 41 0) = (9, -1) := by decide +kernel
theorem kn3 : dchk 2 (fun _ => false) [3, 1, 1, 1, 2, 2, 2, 1, 1, 1, 1, 1] = (6, 0) := by decide +kernel
theorem kn5 : pchk 2 (List.replicate 40 1) = (0, 0) := by decide +kernel
theorem kn6 : ptxt exN (List.replicate 40 1) = [52, 48, 32, 97, 120, 101, 10] := by decide +kernel
theorem kn7 : pchk 2 [] = (0, 0) := by decide +kernel
theorem kn8 : ptxt exN [] = [] := by decide +kernel
theorem kn9 : pchk 2 (List.replicate 41 0) = (9, -1) := by decide +kernel
theorem kn10 : pchk 2 [1, 0] = (6, 1) := by decide +kernel
theorem kn12 : ptxt exN [1, 0] = [] := by decide +kernel
theorem kn11 : dpar exN 1 [] 0 0 [] = .inr [] := by decide +kernel
theorem par_bad {b : Nat} {u v : Value} (s : List UInt8) (x y : Int) (h : dpar exN (s.length + 1) s 0 0 [] = .inl (x, y)) (hs : s.length ≤ 100) (w : World) (B : Book (exOk b) w b (exES u v) plShut) (LB : LibAt w) : Calls Tryz.prog 12 #[.pointer (some ⟨b, 0, none⟩), .string ⟨s.toArray⟩] w fun e w' => e = .returned (.tuple #[.slice none 0 0, .agg #[.int .i64 x, .int .i64 y]]) ∧ w.grownBy w' none := by
  have HQ := pparse_any (exOk b) b (exES u v) plShut ⟨s.toArray⟩ w B (by show s.toArray.size ≤ _; rw [List.size_toArray]; omega) LB
  rw [dx_pa, show (⟨s.toArray⟩ : ByteArray).data.toList = s from rfl, h] at HQ
  refine HQ.mono ?_
  rintro e w' ⟨g, Q⟩
  rcases Q with ⟨f, hf, rfl⟩ | ⟨l, vv, hl, _⟩
  · injection hf with hf
    subst hf
    exact ⟨rfl, g⟩
  · cases hl
theorem par_none {b : Nat} {u v : Value} (w : World) (B : Book (exOk b) w b (exES u v) plShut) (LB : LibAt w) : Calls Tryz.prog 12 #[.pointer (some ⟨b, 0, none⟩), .string ⟨#[]⟩] w fun e w' => ∃ a c, e = .returned (.tuple #[.slice a 0 c, .agg #[.int .i64 0, .int .i64 0]]) ∧ w.grownBy w' none := by
  have HQ := pparse_any (exOk b) b (exES u v) plShut ⟨#[]⟩ w B (by decide) LB
  rw [dx_pa, show (⟨#[]⟩ : ByteArray).data.toList = [] from rfl, show ([] : List UInt8).length + 1 = 1 from rfl, kn11] at HQ
  refine HQ.mono ?_
  rintro e w' ⟨g, Q⟩
  rcases Q with ⟨f, hf, _⟩ | ⟨l, vv, hl, rfl, o⟩
  · cases hf
  · injection hl with hl
    subst hl
    obtain ⟨a, c, rfl, _⟩ := own_rd o
    exact ⟨a, c, rfl, g⟩
/-- Forty numbers, the first k of them one. -/
def LnAt (w : World) (g k : Nat) : Prop := w.heap[g]? = some (.cells (ints (List.replicate k 1 ++ List.replicate (40 - k) 0)).toArray 3 (0, 0))
theorem LnAt.cell {w : World} {g k : Nat} (h : LnAt w g k) (hk : k < 40) : w.cell? ⟨g, k, none⟩ = some (.int .i64 0) := by
  rw [block_cell h k]
  obtain ⟨d, hd⟩ : ∃ d, 40 - k = d + 1 := ⟨40 - k - 1, by omega⟩
  rw [hd, List.replicate_succ, List.getElem?_toArray]
  unfold ints
  rw [List.map_append, List.getElem?_append_right (by simp)]
  simp
theorem LnAt.put {w : World} {g k : Nat} (h : LnAt w g k) (hk : k < 40) : LnAt (w.setCell ⟨g, k, none⟩ (.int .i64 1)) g (k + 1) := by
  unfold LnAt at h ⊢
  rw [block_set h]
  congr 2
  have e : (ints (List.replicate k 1 ++ List.replicate (40 - k) 0)).set k (.int .i64 1) = ints (List.replicate (k + 1) 1 ++ List.replicate (40 - (k + 1)) 0) := by
    obtain ⟨d, hd⟩ : ∃ d, 40 - k = d + 1 := ⟨40 - k - 1, by omega⟩
    rw [hd, show 40 - (k + 1) = d from by omega, List.replicate_succ, show (List.replicate (k + 1) (1 : Int)) = List.replicate k 1 ++ [1] from List.replicate_succ']
    unfold ints
    rw [List.map_append, List.set_append_right _ _ (by simp)]
    simp
  rw [← e]
  simp
theorem LnAt.rd {w : World} {g : Nat} (h : LnAt w g 40) : Rd w (some ⟨g, 0, none⟩) 40 (List.replicate 40 1) := by
  unfold LnAt at h
  rw [show List.replicate 40 (1 : Int) ++ List.replicate (40 - 40) 0 = List.replicate 40 1 from rfl] at h
  exact lit_rd h rfl
theorem LnAt.free {w : World} {g k : Nat} (h : LnAt w g k) (i : Nat) : w.frozen? ⟨g, i, none⟩ = false := block_free h i
def knZ (n : Nat) : Array Value := (ints (List.replicate n 0)).toArray
theorem knZ_rd {w : World} {g n : Nat} (h : w.heap[g]? = some (.cells (knZ n) 3 (0, 0))) : Rd w (some ⟨g, 0, none⟩) n (List.replicate n 0) := lit_rd h (by simp)
theorem mk_int (n : Nat) (hn : n ≤ 256) (w : World) : (Instr.makeSlice 26 (.int .i64 n) (.int .i64 n)).run Tryz.prog w = .ok (.slice (some ⟨w.heap.size, 0, none⟩) n n) (w.alloc (.cells (knZ n) 3)) := L.run_make35 n hn w
theorem mk11 (w : World) : (Instr.makeSlice 26 (.int .i64 11) (.int .i64 11)).run Tryz.prog w = .ok (.slice (some ⟨w.heap.size, 0, none⟩) 11 11) (w.alloc (.cells (knZ 11) 3)) := mk_int 11 (by decide) w
theorem mk41 (w : World) : (Instr.makeSlice 26 (.int .i64 41) (.int .i64 41)).run Tryz.prog w = .ok (.slice (some ⟨w.heap.size, 0, none⟩) 41 41) (w.alloc (.cells (knZ 41) 3)) := mk_int 41 (by decide) w
theorem mk40 (w : World) : (Instr.makeSlice 26 (.int .i64 40) (.int .i64 40)).run Tryz.prog w = .ok (.slice (some ⟨w.heap.size, 0, none⟩) 40 40) (w.alloc (.cells (knZ 40) 3)) := mk_int 40 (by decide) w
set_option maxRecDepth 100000 in
set_option maxHeartbeats 4000000 in
theorem deckKnown_any (w : World) (LB : LibAt w) : Calls Tryz.prog 7 #[] w fun e w' => e = .returned (.bool true) ∧ w.grownBy w' none := by
  have HE := example_any w
  have HLb : Hid (LibAt w) := LB
  obtain ⟨b, hb⟩ : ∃ b, b = w.heap.size := ⟨_, rfl⟩
  rw [← hb] at HE
  have HBb : Hid (b = w.heap.size) := hb
  clear hb LB
  go_enter Tryz.func7, Tryz.ntmps7
  go_wp2_with fail
  refine HE.mono ?_
  rintro e w1 ⟨u, v, rfl, B1, g1⟩
  clear HE
  obtain ⟨T, hT⟩ : ∃ T : Array Value, T = #[.int .i64 3, .int .i64 1, .int .i64 1, .int .i64 1, .int .i64 2, .int .i64 2, .int .i64 2, .int .i64 1, .int .i64 1, .int .i64 1, .int .i64 1, .int .i64 1] := ⟨_, rfl⟩
  have M11 := mk11 (w1.alloc (.cells #[.int .i64 3, .int .i64 1, .int .i64 1, .int .i64 1, .int .i64 2, .int .i64 2, .int .i64 2, .int .i64 1, .int .i64 1, .int .i64 1, .int .i64 1, .int .i64 1] 3))
  rw [← hT] at M11
  obtain ⟨t, ht⟩ : ∃ t, t = w1.heap.size := ⟨_, rfl⟩
  obtain ⟨W3, hW3⟩ : ∃ W3, W3 = (w1.alloc (.cells T 3)).alloc (.cells (knZ 11) 3) := ⟨_, rfl⟩
  have HG13 : Hid (w1.grownBy W3 none) := by rw [hW3]; exact grown_push (World.grownBy_alloc _ _ none) _
  have HG3 : Hid (w.grownBy W3 none) := grown_trans g1 HG13.out
  have HB3 : Hid (Book (exOk b) W3 b (exES u v) plShut) := B1.keep HG13.out
  have HT3 : Hid (Rd W3 (some ⟨t, 0, none⟩) 12 [3, 1, 1, 1, 2, 2, 2, 1, 1, 1, 1, 1]) := by rw [hW3, ht]; exact (lit_rd (l := [3, 1, 1, 1, 2, 2, 2, 1, 1, 1, 1, 1]) (by rw [alloc_at w1 T 3, hT]; rfl) rfl).keep (World.grownBy_alloc _ _ none)
  have C1 := pcheck_any (exOk b) b (exES u v) plShut (some ⟨t + 1, 0, none⟩) 11 11 (List.replicate 11 0) W3 HB3.out (knZ_rd (by rw [hW3, ht, ← World.size_alloc w1 (.cells T 3)]; exact alloc_at _ _ _))
  rw [dx_ck, kn1] at C1
  unfold fv2 at C1
  rw [hT] at M11 hW3
  clear g1 B1 hT HG13
  go_wp2_with fail
  rw [← hW3, ← ht]
  clear hW3 M11 ht
  refine C1.mono ?_
  rintro e w4 ⟨rfl, g4⟩
  have M41 := mk41 w4
  obtain ⟨W5, hW5⟩ : ∃ W5, W5 = w4.alloc (.cells (knZ 41) 3) := ⟨_, rfl⟩
  have HG35 : Hid (W3.grownBy W5 none) := by rw [hW5]; exact grown_push g4 _
  have C2 := pcheck_any (exOk b) b (exES u v) plShut (some ⟨w4.heap.size, 0, none⟩) 41 41 (List.replicate 41 0) W5 (HB3.out.keep HG35.out) (knZ_rd (by rw [hW5]; exact alloc_at _ _ _))
  rw [dx_ck, kn2] at C2
  unfold fv2 at C2
  clear C1 g4
  go_wp2_with fail
  rw [← hW5]
  clear hW5 M41
  refine C2.mono ?_
  rintro e w6 ⟨rfl, g6⟩
  have HG6 : Hid (W3.grownBy w6 none) := grown_trans HG35.out g6
  have C3 := pcheck_any (exOk b) b (exES u v) plShut (some ⟨t, 0, none⟩) 12 12 _ w6 (HB3.out.keep HG6.out) (HT3.out.keep HG6.out)
  rw [dx_ck, kn3] at C3
  unfold fv2 at C3
  clear C2 g6 HG35
  go_wp2_with fail
  refine C3.mono ?_
  rintro e w7 ⟨rfl, g7⟩
  have HG7 : Hid (W3.grownBy w7 none) := grown_trans HG6.out g7
  have HN := bnew (exOk w7.heap.size) w7
  clear C3 g7 HG6
  go_wp2_with fail
  refine HN.mono ?_
  rintro e w8 ⟨rfl, B8, g8, -⟩
  have HG8 : Hid (W3.grownBy w8 none) := grown_trans HG7.out g8
  have C4 := pcheck_open (exOk w7.heap.size) w7.heap.size [] plNew (some ⟨t, 0, none⟩) 12 12 w8 B8 rfl
  clear HN g8 B8 HG7
  go_wp2_with fail
  refine C4.mono ?_
  rintro e w9 ⟨rfl, g9⟩
  have HG9 : Hid (w.grownBy w9 none) := grown_trans HG3.out (grown_trans HG8.out g9)
  have HB9 : Hid (Book (exOk b) w9 b (exES u v) plShut) := HB3.out.keep (grown_trans HG8.out g9)
  clear C4 g9 HG8 HT3 HG3 HB3
  obtain ⟨W0, hW0⟩ : ∃ W0, W0 = (w9.alloc (.cells #[.string ⟨#[48, 32, 97, 120, 101, 10]⟩, .string ⟨#[48, 50, 32, 97, 120, 101, 10]⟩, .string ⟨#[49, 32, 97, 120, 101]⟩, .string ⟨#[49, 32, 120, 10]⟩, .string ⟨#[49, 32, 97, 120, 101, 10, 49, 32, 97, 120, 101, 10]⟩, .string ⟨#[52, 48, 32, 97, 120, 101, 10, 49, 32, 114, 111, 99, 107, 10]⟩, .string ⟨#[52, 49, 32, 97, 120, 101, 10]⟩, .string ⟨#[49, 32, 97, 120, 101, 10, 10]⟩, .string ⟨#[49, 32, 32, 97, 120, 101, 10]⟩] 9)).alloc (.cells #[.int .i64 260, .int .i64 0, .int .i64 260, .int .i64 0, .int .i64 260, .int .i64 0, .int .i64 6, .int .i64 0, .int .i64 260, .int .i64 1, .int .i64 9, .int .i64 (-1), .int .i64 260, .int .i64 0, .int .i64 260, .int .i64 1, .int .i64 260, .int .i64 0] 34) := ⟨_, rfl⟩
  have HA1 : Hid (W0.heap[w9.heap.size]? = some (.cells #[.string ⟨#[48, 32, 97, 120, 101, 10]⟩, .string ⟨#[48, 50, 32, 97, 120, 101, 10]⟩, .string ⟨#[49, 32, 97, 120, 101]⟩, .string ⟨#[49, 32, 120, 10]⟩, .string ⟨#[49, 32, 97, 120, 101, 10, 49, 32, 97, 120, 101, 10]⟩, .string ⟨#[52, 48, 32, 97, 120, 101, 10, 49, 32, 114, 111, 99, 107, 10]⟩, .string ⟨#[52, 49, 32, 97, 120, 101, 10]⟩, .string ⟨#[49, 32, 97, 120, 101, 10, 10]⟩, .string ⟨#[49, 32, 32, 97, 120, 101, 10]⟩] 9 (0, 0))) := by show _ = _; rw [hW0]; exact grown_keep (World.grownBy_alloc _ _ none) (alloc_at w9 _ _) (by simp)
  have HA2 : Hid (W0.heap[w9.heap.size + 1]? = some (.cells #[.int .i64 260, .int .i64 0, .int .i64 260, .int .i64 0, .int .i64 260, .int .i64 0, .int .i64 6, .int .i64 0, .int .i64 260, .int .i64 1, .int .i64 9, .int .i64 (-1), .int .i64 260, .int .i64 0, .int .i64 260, .int .i64 1, .int .i64 260, .int .i64 0] 34 (0, 0))) := by show _ = _; rw [hW0, ← World.size_alloc w9]; exact alloc_at _ _ _
  have HG0 : Hid (w9.grownBy W0 none) := by rw [hW0]; exact grown_push (World.grownBy_alloc _ _ none) _
  have HGW : Hid (w.grownBy W0 none) := grown_trans HG9.out HG0.out
  have HBW : Hid (Book (exOk b) W0 b (exES u v) plShut) := HB9.out.keep HG0.out
  have HLW : Hid (LibAt W0) := HLb.out.keep HGW.out
  clear HG9 HB9 HG0 HLb
  go_upto_region 6 with fail
  rw [← hW0]
  clear hW0
  obtain ⟨tb, htb⟩ : ∃ tb, tb = w9.heap.size := ⟨_, rfl⟩
  rw [← htb] at HA1 HA2 ⊢
  clear htb
  go_upto_region 7 with fail
  go_loopw [6] (fun i wr => ∃ k : Nat, k ≤ 9 ∧ i = .int .i64 (k : Int) ∧ W0.grownBy wr none) (fun i _ => 9 - (intOf i).toNat)
  case atStart => exact ⟨0, Nat.zero_le _, rfl, grown_refl _ _⟩
  case round =>
    obtain ⟨k, hk, rfl, hg⟩ := hrel
    obtain ⟨U, hU⟩ : ∃ U, U = wr := ⟨_, rfl⟩
    subst hU
    have HGU : Hid (W0.grownBy U none) := hg
    clear hg
    rcases (show k = 0 ∨ k = 1 ∨ k = 2 ∨ k = 3 ∨ k = 4 ∨ k = 5 ∨ k = 6 ∨ k = 7 ∨ k = 8 ∨ k = 9 from by omega) with rfl | rfl | rfl | rfl | rfl | rfl | rfl | rfl | rfl | rfl
    · have c0 : U.cell? ⟨tb, 0, none⟩ = some (.string ⟨#[48, 32, 97, 120, 101, 10]⟩) := HGU.out.cell ((block_cell HA1.out 0).trans rfl) (by simp)
      have d0 : U.cell? ⟨tb + 1, 0, none⟩ = some (.int .i64 260) := HGU.out.cell ((block_cell HA2.out 0).trans rfl) (by simp)
      have d1 : U.cell? ⟨tb + 1, 1, none⟩ = some (.int .i64 0) := HGU.out.cell ((block_cell HA2.out 1).trans rfl) (by simp)
      have C5 := par_bad (b := b) (u := u) (v := v) [48, 32, 97, 120, 101, 10] 260 0 (by decide +kernel) (by decide) U (HBW.out.keep HGU.out) (HLW.out.keep HGU.out)
      have HD : Hid (U.cell? ⟨tb + 1, 0, none⟩ = some (.int .i64 260) ∧ U.cell? ⟨tb + 1, 1, none⟩ = some (.int .i64 0)) := ⟨d0, d1⟩
      clear d0 d1
      rw [show ((0 : Nat) : Int) = (0 : Int) from rfl]
      go_wp2_with fail
      refine C5.mono ?_
      rintro e V ⟨rfl, gv⟩
      obtain ⟨V1, hV1⟩ : ∃ V1, V1 = V.alloc (.cells #[.int .i64 260, .int .i64 0] 34) := ⟨_, rfl⟩
      have HV1 : Hid (U.grownBy V1 none) := by rw [hV1]; exact grown_push gv _
      have HF1 : Hid (FAt V1 V.heap.size 260 0) := by rw [hV1]; exact alloc_at V _ _
      have HGV : Hid (W0.grownBy V1 none) := grown_trans HGU.out HV1.out
      clear C5 gv c0 HGU
      go_upto_region 10 with fail
      rw [← hV1]
      clear hV1
      obtain ⟨r1, hr1⟩ : ∃ r1, r1 = V.heap.size := ⟨_, rfl⟩
      rw [← hr1] at HF1 ⊢
      clear hr1
      have d0 : V1.cell? ⟨tb + 1, 0, none⟩ = some (.int .i64 260) := HV1.out.cell HD.out.1 (by simp)
      have d1 : V1.cell? ⟨tb + 1, 1, none⟩ = some (.int .i64 0) := HV1.out.cell HD.out.2 (by simp)
      have e0 := HF1.out.c0
      have e1 := HF1.out.c1
      clear HD HV1 HF1
      go_quiet (fail)
      go_wp2_with fail
      go_roundw
      case rel => exact ⟨1, by decide, rfl, grown_trans HGV.out (grown_drewN _ _ _)⟩
      case measure => decide
    · have c0 : U.cell? ⟨tb, 1, none⟩ = some (.string ⟨#[48, 50, 32, 97, 120, 101, 10]⟩) := HGU.out.cell ((block_cell HA1.out 1).trans rfl) (by simp)
      have d0 : U.cell? ⟨tb + 1, 2, none⟩ = some (.int .i64 260) := HGU.out.cell ((block_cell HA2.out 2).trans rfl) (by simp)
      have d1 : U.cell? ⟨tb + 1, 3, none⟩ = some (.int .i64 0) := HGU.out.cell ((block_cell HA2.out 3).trans rfl) (by simp)
      have C5 := par_bad (b := b) (u := u) (v := v) [48, 50, 32, 97, 120, 101, 10] 260 0 (by decide +kernel) (by decide) U (HBW.out.keep HGU.out) (HLW.out.keep HGU.out)
      have HD : Hid (U.cell? ⟨tb + 1, 2, none⟩ = some (.int .i64 260) ∧ U.cell? ⟨tb + 1, 3, none⟩ = some (.int .i64 0)) := ⟨d0, d1⟩
      clear d0 d1
      rw [show ((1 : Nat) : Int) = (1 : Int) from rfl]
      go_wp2_with fail
      refine C5.mono ?_
      rintro e V ⟨rfl, gv⟩
      obtain ⟨V1, hV1⟩ : ∃ V1, V1 = V.alloc (.cells #[.int .i64 260, .int .i64 0] 34) := ⟨_, rfl⟩
      have HV1 : Hid (U.grownBy V1 none) := by rw [hV1]; exact grown_push gv _
      have HF1 : Hid (FAt V1 V.heap.size 260 0) := by rw [hV1]; exact alloc_at V _ _
      have HGV : Hid (W0.grownBy V1 none) := grown_trans HGU.out HV1.out
      clear C5 gv c0 HGU
      go_upto_region 10 with fail
      rw [← hV1]
      clear hV1
      obtain ⟨r1, hr1⟩ : ∃ r1, r1 = V.heap.size := ⟨_, rfl⟩
      rw [← hr1] at HF1 ⊢
      clear hr1
      have d0 : V1.cell? ⟨tb + 1, 2, none⟩ = some (.int .i64 260) := HV1.out.cell HD.out.1 (by simp)
      have d1 : V1.cell? ⟨tb + 1, 3, none⟩ = some (.int .i64 0) := HV1.out.cell HD.out.2 (by simp)
      have e0 := HF1.out.c0
      have e1 := HF1.out.c1
      clear HD HV1 HF1
      go_quiet (fail)
      go_wp2_with fail
      go_roundw
      case rel => exact ⟨2, by decide, rfl, grown_trans HGV.out (grown_drewN _ _ _)⟩
      case measure => decide
    · have c0 : U.cell? ⟨tb, 2, none⟩ = some (.string ⟨#[49, 32, 97, 120, 101]⟩) := HGU.out.cell ((block_cell HA1.out 2).trans rfl) (by simp)
      have d0 : U.cell? ⟨tb + 1, 4, none⟩ = some (.int .i64 260) := HGU.out.cell ((block_cell HA2.out 4).trans rfl) (by simp)
      have d1 : U.cell? ⟨tb + 1, 5, none⟩ = some (.int .i64 0) := HGU.out.cell ((block_cell HA2.out 5).trans rfl) (by simp)
      have C5 := par_bad (b := b) (u := u) (v := v) [49, 32, 97, 120, 101] 260 0 (by decide +kernel) (by decide) U (HBW.out.keep HGU.out) (HLW.out.keep HGU.out)
      have HD : Hid (U.cell? ⟨tb + 1, 4, none⟩ = some (.int .i64 260) ∧ U.cell? ⟨tb + 1, 5, none⟩ = some (.int .i64 0)) := ⟨d0, d1⟩
      clear d0 d1
      rw [show ((2 : Nat) : Int) = (2 : Int) from rfl]
      go_wp2_with fail
      refine C5.mono ?_
      rintro e V ⟨rfl, gv⟩
      obtain ⟨V1, hV1⟩ : ∃ V1, V1 = V.alloc (.cells #[.int .i64 260, .int .i64 0] 34) := ⟨_, rfl⟩
      have HV1 : Hid (U.grownBy V1 none) := by rw [hV1]; exact grown_push gv _
      have HF1 : Hid (FAt V1 V.heap.size 260 0) := by rw [hV1]; exact alloc_at V _ _
      have HGV : Hid (W0.grownBy V1 none) := grown_trans HGU.out HV1.out
      clear C5 gv c0 HGU
      go_upto_region 10 with fail
      rw [← hV1]
      clear hV1
      obtain ⟨r1, hr1⟩ : ∃ r1, r1 = V.heap.size := ⟨_, rfl⟩
      rw [← hr1] at HF1 ⊢
      clear hr1
      have d0 : V1.cell? ⟨tb + 1, 4, none⟩ = some (.int .i64 260) := HV1.out.cell HD.out.1 (by simp)
      have d1 : V1.cell? ⟨tb + 1, 5, none⟩ = some (.int .i64 0) := HV1.out.cell HD.out.2 (by simp)
      have e0 := HF1.out.c0
      have e1 := HF1.out.c1
      clear HD HV1 HF1
      go_quiet (fail)
      go_wp2_with fail
      go_roundw
      case rel => exact ⟨3, by decide, rfl, grown_trans HGV.out (grown_drewN _ _ _)⟩
      case measure => decide
    · have c0 : U.cell? ⟨tb, 3, none⟩ = some (.string ⟨#[49, 32, 120, 10]⟩) := HGU.out.cell ((block_cell HA1.out 3).trans rfl) (by simp)
      have d0 : U.cell? ⟨tb + 1, 6, none⟩ = some (.int .i64 6) := HGU.out.cell ((block_cell HA2.out 6).trans rfl) (by simp)
      have d1 : U.cell? ⟨tb + 1, 7, none⟩ = some (.int .i64 0) := HGU.out.cell ((block_cell HA2.out 7).trans rfl) (by simp)
      have C5 := par_bad (b := b) (u := u) (v := v) [49, 32, 120, 10] 6 0 (by decide +kernel) (by decide) U (HBW.out.keep HGU.out) (HLW.out.keep HGU.out)
      have HD : Hid (U.cell? ⟨tb + 1, 6, none⟩ = some (.int .i64 6) ∧ U.cell? ⟨tb + 1, 7, none⟩ = some (.int .i64 0)) := ⟨d0, d1⟩
      clear d0 d1
      rw [show ((3 : Nat) : Int) = (3 : Int) from rfl]
      go_wp2_with fail
      refine C5.mono ?_
      rintro e V ⟨rfl, gv⟩
      obtain ⟨V1, hV1⟩ : ∃ V1, V1 = V.alloc (.cells #[.int .i64 6, .int .i64 0] 34) := ⟨_, rfl⟩
      have HV1 : Hid (U.grownBy V1 none) := by rw [hV1]; exact grown_push gv _
      have HF1 : Hid (FAt V1 V.heap.size 6 0) := by rw [hV1]; exact alloc_at V _ _
      have HGV : Hid (W0.grownBy V1 none) := grown_trans HGU.out HV1.out
      clear C5 gv c0 HGU
      go_upto_region 10 with fail
      rw [← hV1]
      clear hV1
      obtain ⟨r1, hr1⟩ : ∃ r1, r1 = V.heap.size := ⟨_, rfl⟩
      rw [← hr1] at HF1 ⊢
      clear hr1
      have d0 : V1.cell? ⟨tb + 1, 6, none⟩ = some (.int .i64 6) := HV1.out.cell HD.out.1 (by simp)
      have d1 : V1.cell? ⟨tb + 1, 7, none⟩ = some (.int .i64 0) := HV1.out.cell HD.out.2 (by simp)
      have e0 := HF1.out.c0
      have e1 := HF1.out.c1
      clear HD HV1 HF1
      go_quiet (fail)
      go_wp2_with fail
      go_roundw
      case rel => exact ⟨4, by decide, rfl, grown_trans HGV.out (grown_drewN _ _ _)⟩
      case measure => decide
    · have c0 : U.cell? ⟨tb, 4, none⟩ = some (.string ⟨#[49, 32, 97, 120, 101, 10, 49, 32, 97, 120, 101, 10]⟩) := HGU.out.cell ((block_cell HA1.out 4).trans rfl) (by simp)
      have d0 : U.cell? ⟨tb + 1, 8, none⟩ = some (.int .i64 260) := HGU.out.cell ((block_cell HA2.out 8).trans rfl) (by simp)
      have d1 : U.cell? ⟨tb + 1, 9, none⟩ = some (.int .i64 1) := HGU.out.cell ((block_cell HA2.out 9).trans rfl) (by simp)
      have C5 := par_bad (b := b) (u := u) (v := v) [49, 32, 97, 120, 101, 10, 49, 32, 97, 120, 101, 10] 260 1 (by decide +kernel) (by decide) U (HBW.out.keep HGU.out) (HLW.out.keep HGU.out)
      have HD : Hid (U.cell? ⟨tb + 1, 8, none⟩ = some (.int .i64 260) ∧ U.cell? ⟨tb + 1, 9, none⟩ = some (.int .i64 1)) := ⟨d0, d1⟩
      clear d0 d1
      rw [show ((4 : Nat) : Int) = (4 : Int) from rfl]
      go_wp2_with fail
      refine C5.mono ?_
      rintro e V ⟨rfl, gv⟩
      obtain ⟨V1, hV1⟩ : ∃ V1, V1 = V.alloc (.cells #[.int .i64 260, .int .i64 1] 34) := ⟨_, rfl⟩
      have HV1 : Hid (U.grownBy V1 none) := by rw [hV1]; exact grown_push gv _
      have HF1 : Hid (FAt V1 V.heap.size 260 1) := by rw [hV1]; exact alloc_at V _ _
      have HGV : Hid (W0.grownBy V1 none) := grown_trans HGU.out HV1.out
      clear C5 gv c0 HGU
      go_upto_region 10 with fail
      rw [← hV1]
      clear hV1
      obtain ⟨r1, hr1⟩ : ∃ r1, r1 = V.heap.size := ⟨_, rfl⟩
      rw [← hr1] at HF1 ⊢
      clear hr1
      have d0 : V1.cell? ⟨tb + 1, 8, none⟩ = some (.int .i64 260) := HV1.out.cell HD.out.1 (by simp)
      have d1 : V1.cell? ⟨tb + 1, 9, none⟩ = some (.int .i64 1) := HV1.out.cell HD.out.2 (by simp)
      have e0 := HF1.out.c0
      have e1 := HF1.out.c1
      clear HD HV1 HF1
      go_quiet (fail)
      go_wp2_with fail
      go_roundw
      case rel => exact ⟨5, by decide, rfl, grown_trans HGV.out (grown_drewN _ _ _)⟩
      case measure => decide
    · have c0 : U.cell? ⟨tb, 5, none⟩ = some (.string ⟨#[52, 48, 32, 97, 120, 101, 10, 49, 32, 114, 111, 99, 107, 10]⟩) := HGU.out.cell ((block_cell HA1.out 5).trans rfl) (by simp)
      have d0 : U.cell? ⟨tb + 1, 10, none⟩ = some (.int .i64 9) := HGU.out.cell ((block_cell HA2.out 10).trans rfl) (by simp)
      have d1 : U.cell? ⟨tb + 1, 11, none⟩ = some (.int .i64 (-1)) := HGU.out.cell ((block_cell HA2.out 11).trans rfl) (by simp)
      have C5 := par_bad (b := b) (u := u) (v := v) [52, 48, 32, 97, 120, 101, 10, 49, 32, 114, 111, 99, 107, 10] 9 (-1) (by decide +kernel) (by decide) U (HBW.out.keep HGU.out) (HLW.out.keep HGU.out)
      have HD : Hid (U.cell? ⟨tb + 1, 10, none⟩ = some (.int .i64 9) ∧ U.cell? ⟨tb + 1, 11, none⟩ = some (.int .i64 (-1))) := ⟨d0, d1⟩
      clear d0 d1
      rw [show ((5 : Nat) : Int) = (5 : Int) from rfl]
      go_wp2_with fail
      refine C5.mono ?_
      rintro e V ⟨rfl, gv⟩
      obtain ⟨V1, hV1⟩ : ∃ V1, V1 = V.alloc (.cells #[.int .i64 9, .int .i64 (-1)] 34) := ⟨_, rfl⟩
      have HV1 : Hid (U.grownBy V1 none) := by rw [hV1]; exact grown_push gv _
      have HF1 : Hid (FAt V1 V.heap.size 9 (-1)) := by rw [hV1]; exact alloc_at V _ _
      have HGV : Hid (W0.grownBy V1 none) := grown_trans HGU.out HV1.out
      clear C5 gv c0 HGU
      go_upto_region 10 with fail
      rw [← hV1]
      clear hV1
      obtain ⟨r1, hr1⟩ : ∃ r1, r1 = V.heap.size := ⟨_, rfl⟩
      rw [← hr1] at HF1 ⊢
      clear hr1
      have d0 : V1.cell? ⟨tb + 1, 10, none⟩ = some (.int .i64 9) := HV1.out.cell HD.out.1 (by simp)
      have d1 : V1.cell? ⟨tb + 1, 11, none⟩ = some (.int .i64 (-1)) := HV1.out.cell HD.out.2 (by simp)
      have e0 := HF1.out.c0
      have e1 := HF1.out.c1
      clear HD HV1 HF1
      go_quiet (fail)
      go_wp2_with fail
      go_roundw
      case rel => exact ⟨6, by decide, rfl, grown_trans HGV.out (grown_drewN _ _ _)⟩
      case measure => decide
    · have c0 : U.cell? ⟨tb, 6, none⟩ = some (.string ⟨#[52, 49, 32, 97, 120, 101, 10]⟩) := HGU.out.cell ((block_cell HA1.out 6).trans rfl) (by simp)
      have d0 : U.cell? ⟨tb + 1, 12, none⟩ = some (.int .i64 260) := HGU.out.cell ((block_cell HA2.out 12).trans rfl) (by simp)
      have d1 : U.cell? ⟨tb + 1, 13, none⟩ = some (.int .i64 0) := HGU.out.cell ((block_cell HA2.out 13).trans rfl) (by simp)
      have C5 := par_bad (b := b) (u := u) (v := v) [52, 49, 32, 97, 120, 101, 10] 260 0 (by decide +kernel) (by decide) U (HBW.out.keep HGU.out) (HLW.out.keep HGU.out)
      have HD : Hid (U.cell? ⟨tb + 1, 12, none⟩ = some (.int .i64 260) ∧ U.cell? ⟨tb + 1, 13, none⟩ = some (.int .i64 0)) := ⟨d0, d1⟩
      clear d0 d1
      rw [show ((6 : Nat) : Int) = (6 : Int) from rfl]
      go_wp2_with fail
      refine C5.mono ?_
      rintro e V ⟨rfl, gv⟩
      obtain ⟨V1, hV1⟩ : ∃ V1, V1 = V.alloc (.cells #[.int .i64 260, .int .i64 0] 34) := ⟨_, rfl⟩
      have HV1 : Hid (U.grownBy V1 none) := by rw [hV1]; exact grown_push gv _
      have HF1 : Hid (FAt V1 V.heap.size 260 0) := by rw [hV1]; exact alloc_at V _ _
      have HGV : Hid (W0.grownBy V1 none) := grown_trans HGU.out HV1.out
      clear C5 gv c0 HGU
      go_upto_region 10 with fail
      rw [← hV1]
      clear hV1
      obtain ⟨r1, hr1⟩ : ∃ r1, r1 = V.heap.size := ⟨_, rfl⟩
      rw [← hr1] at HF1 ⊢
      clear hr1
      have d0 : V1.cell? ⟨tb + 1, 12, none⟩ = some (.int .i64 260) := HV1.out.cell HD.out.1 (by simp)
      have d1 : V1.cell? ⟨tb + 1, 13, none⟩ = some (.int .i64 0) := HV1.out.cell HD.out.2 (by simp)
      have e0 := HF1.out.c0
      have e1 := HF1.out.c1
      clear HD HV1 HF1
      go_quiet (fail)
      go_wp2_with fail
      go_roundw
      case rel => exact ⟨7, by decide, rfl, grown_trans HGV.out (grown_drewN _ _ _)⟩
      case measure => decide
    · have c0 : U.cell? ⟨tb, 7, none⟩ = some (.string ⟨#[49, 32, 97, 120, 101, 10, 10]⟩) := HGU.out.cell ((block_cell HA1.out 7).trans rfl) (by simp)
      have d0 : U.cell? ⟨tb + 1, 14, none⟩ = some (.int .i64 260) := HGU.out.cell ((block_cell HA2.out 14).trans rfl) (by simp)
      have d1 : U.cell? ⟨tb + 1, 15, none⟩ = some (.int .i64 1) := HGU.out.cell ((block_cell HA2.out 15).trans rfl) (by simp)
      have C5 := par_bad (b := b) (u := u) (v := v) [49, 32, 97, 120, 101, 10, 10] 260 1 (by decide +kernel) (by decide) U (HBW.out.keep HGU.out) (HLW.out.keep HGU.out)
      have HD : Hid (U.cell? ⟨tb + 1, 14, none⟩ = some (.int .i64 260) ∧ U.cell? ⟨tb + 1, 15, none⟩ = some (.int .i64 1)) := ⟨d0, d1⟩
      clear d0 d1
      rw [show ((7 : Nat) : Int) = (7 : Int) from rfl]
      go_wp2_with fail
      refine C5.mono ?_
      rintro e V ⟨rfl, gv⟩
      obtain ⟨V1, hV1⟩ : ∃ V1, V1 = V.alloc (.cells #[.int .i64 260, .int .i64 1] 34) := ⟨_, rfl⟩
      have HV1 : Hid (U.grownBy V1 none) := by rw [hV1]; exact grown_push gv _
      have HF1 : Hid (FAt V1 V.heap.size 260 1) := by rw [hV1]; exact alloc_at V _ _
      have HGV : Hid (W0.grownBy V1 none) := grown_trans HGU.out HV1.out
      clear C5 gv c0 HGU
      go_upto_region 10 with fail
      rw [← hV1]
      clear hV1
      obtain ⟨r1, hr1⟩ : ∃ r1, r1 = V.heap.size := ⟨_, rfl⟩
      rw [← hr1] at HF1 ⊢
      clear hr1
      have d0 : V1.cell? ⟨tb + 1, 14, none⟩ = some (.int .i64 260) := HV1.out.cell HD.out.1 (by simp)
      have d1 : V1.cell? ⟨tb + 1, 15, none⟩ = some (.int .i64 1) := HV1.out.cell HD.out.2 (by simp)
      have e0 := HF1.out.c0
      have e1 := HF1.out.c1
      clear HD HV1 HF1
      go_quiet (fail)
      go_wp2_with fail
      go_roundw
      case rel => exact ⟨8, by decide, rfl, grown_trans HGV.out (grown_drewN _ _ _)⟩
      case measure => decide
    · have c0 : U.cell? ⟨tb, 8, none⟩ = some (.string ⟨#[49, 32, 32, 97, 120, 101, 10]⟩) := HGU.out.cell ((block_cell HA1.out 8).trans rfl) (by simp)
      have d0 : U.cell? ⟨tb + 1, 16, none⟩ = some (.int .i64 260) := HGU.out.cell ((block_cell HA2.out 16).trans rfl) (by simp)
      have d1 : U.cell? ⟨tb + 1, 17, none⟩ = some (.int .i64 0) := HGU.out.cell ((block_cell HA2.out 17).trans rfl) (by simp)
      have C5 := par_bad (b := b) (u := u) (v := v) [49, 32, 32, 97, 120, 101, 10] 260 0 (by decide +kernel) (by decide) U (HBW.out.keep HGU.out) (HLW.out.keep HGU.out)
      have HD : Hid (U.cell? ⟨tb + 1, 16, none⟩ = some (.int .i64 260) ∧ U.cell? ⟨tb + 1, 17, none⟩ = some (.int .i64 0)) := ⟨d0, d1⟩
      clear d0 d1
      rw [show ((8 : Nat) : Int) = (8 : Int) from rfl]
      go_wp2_with fail
      refine C5.mono ?_
      rintro e V ⟨rfl, gv⟩
      obtain ⟨V1, hV1⟩ : ∃ V1, V1 = V.alloc (.cells #[.int .i64 260, .int .i64 0] 34) := ⟨_, rfl⟩
      have HV1 : Hid (U.grownBy V1 none) := by rw [hV1]; exact grown_push gv _
      have HF1 : Hid (FAt V1 V.heap.size 260 0) := by rw [hV1]; exact alloc_at V _ _
      have HGV : Hid (W0.grownBy V1 none) := grown_trans HGU.out HV1.out
      clear C5 gv c0 HGU
      go_upto_region 10 with fail
      rw [← hV1]
      clear hV1
      obtain ⟨r1, hr1⟩ : ∃ r1, r1 = V.heap.size := ⟨_, rfl⟩
      rw [← hr1] at HF1 ⊢
      clear hr1
      have d0 : V1.cell? ⟨tb + 1, 16, none⟩ = some (.int .i64 260) := HV1.out.cell HD.out.1 (by simp)
      have d1 : V1.cell? ⟨tb + 1, 17, none⟩ = some (.int .i64 0) := HV1.out.cell HD.out.2 (by simp)
      have e0 := HF1.out.c0
      have e1 := HF1.out.c1
      clear HD HV1 HF1
      go_quiet (fail)
      go_wp2_with fail
      go_roundw
      case rel => exact ⟨9, by decide, rfl, grown_trans HGV.out (grown_drewN _ _ _)⟩
      case measure => decide
    · have M40 := mk40 U
      obtain ⟨V0, hV0⟩ : ∃ V0, V0 = U.alloc (.cells (knZ 40) 3) := ⟨_, rfl⟩
      obtain ⟨g, hg⟩ : ∃ g, g = U.heap.size := ⟨_, rfl⟩
      have HL0 : Hid (LnAt V0 g 0) := by show LnAt _ _ _; rw [hV0, hg]; exact alloc_at U _ _
      have HGV : Hid (W0.grownBy V0 none ∧ W0.heap.size ≤ g) := ⟨by rw [hV0]; exact grown_push HGU.out _, by rw [hg]; exact HGU.out.size⟩
      clear HGU HA1 HA2
      rw [show ((9 : Nat) : Int) = (9 : Int) from rfl]
      go_upto_region 13 with fail
      rw [← hV0, ← hg]
      clear hV0 hg M40
      go_upto_region 14 with fail
      go_loopw [10] (fun i wr => ∃ k : Nat, k ≤ 40 ∧ i = .int .i64 (k : Int) ∧ W0.grownBy wr none ∧ LnAt wr g k) (fun i _ => 40 - (intOf i).toNat)
      case atStart => exact ⟨0, Nat.zero_le _, rfl, HGV.out.1, HL0.out⟩
      case round =>
        clear HL0
        obtain ⟨k, hk, rfl, hin⟩ := hrel
        obtain ⟨U1, hU1⟩ : ∃ U1, U1 = wr := ⟨_, rfl⟩
        subst hU1
        have HI : Hid (W0.grownBy U1 none ∧ LnAt U1 g k) := hin
        clear hin
        rcases (show k = 40 ∨ k < 40 from by omega) with rfl | hlt
        · have HL1 : Hid (LibAt U1) := HLW.out.keep HI.out.1
          have HB1 : Hid (Book (exOk b) U1 b (exES u v) plShut) := HBW.out.keep HI.out.1
          have HG1 : Hid (w.grownBy U1 none) := grown_trans HGW.out HI.out.1
          have C6 := pprint_any (exOk b) b (exES u v) plShut (some ⟨g, 0, none⟩) 40 40 (List.replicate 40 1) U1 HB1.out (Nat.le_refl _) HI.out.2.rd HL1.out
          rw [dx_prF, dx_prX, kn5, kn6] at C6
          unfold fv2 at C6
          clear HI HLW HBW HGW HGV
          rw [show ((40 : Nat) : Int) = (40 : Int) from rfl]
          go_wp2_with fail
          refine C6.mono ?_
          rintro e u2 ⟨rfl, g2⟩
          obtain ⟨V3, hV3⟩ : ∃ V3, V3 = u2.alloc (.cells #[.int .i64 0, .int .i64 0] 34) := ⟨_, rfl⟩
          have HG3 : Hid (U1.grownBy V3 none) := by rw [hV3]; exact grown_push g2 _
          have HF3 : Hid (FAt V3 u2.heap.size 0 0) := by rw [hV3]; exact alloc_at u2 _ _
          have C7 := par_none (u := u) (v := v) V3 (HB1.out.keep HG3.out) (HL1.out.keep HG3.out)
          clear C6 g2
          go_upto_region 18 with fail
          rw [← hV3]
          clear hV3
          obtain ⟨r3, hr3⟩ : ∃ r3, r3 = u2.heap.size := ⟨_, rfl⟩
          rw [← hr3] at HF3 ⊢
          clear hr3
          go_wp2_with fail
          refine C7.mono ?_
          rintro e u4 ⟨a4, c4, rfl, g4⟩
          obtain ⟨V5, hV5⟩ : ∃ V5, V5 = u4.alloc (.cells #[.int .i64 0, .int .i64 0] 34) := ⟨_, rfl⟩
          have HG5 : Hid (U1.grownBy V5 none) := by rw [hV5]; exact grown_push (grown_trans HG3.out g4) _
          have HF5 : Hid (FAt V5 r3 0 0 ∧ FAt V5 u4.heap.size 0 0) := by rw [hV5]; exact ⟨(HF3.out.keep g4).keep (World.grownBy_alloc _ _ none), alloc_at u4 _ _⟩
          have C8 := pprint_any (exOk b) b (exES u v) plShut none 0 0 [] V5 (HB1.out.keep HG5.out) (Nat.le_refl _) ⟨rfl, fun h => by omega⟩ (HL1.out.keep HG5.out)
          rw [dx_prF, dx_prX, kn7, kn8] at C8
          unfold fv2 at C8
          clear C7 g4 HG3 HF3
          go_upto_region 19 with fail
          rw [← hV5]
          clear hV5
          obtain ⟨r5, hr5⟩ : ∃ r5, r5 = u4.heap.size := ⟨_, rfl⟩
          rw [← hr5] at HF5 ⊢
          clear hr5
          go_wp2_with fail
          refine C8.mono ?_
          rintro e u6 ⟨rfl, g6⟩
          obtain ⟨V7, hV7⟩ : ∃ V7, V7 = u6.alloc (.cells #[.int .i64 0, .int .i64 0] 34) := ⟨_, rfl⟩
          have HG57 : Hid (V5.grownBy V7 none) := by rw [hV7]; exact grown_push g6 _
          have HF7 : Hid (FAt V7 r3 0 0 ∧ FAt V7 r5 0 0 ∧ FAt V7 u6.heap.size 0 0) := ⟨HF5.out.1.keep HG57.out, HF5.out.2.keep HG57.out, by rw [hV7]; exact alloc_at u6 _ _⟩
          have HG7 : Hid (U1.grownBy V7 none) := grown_trans HG5.out HG57.out
          clear C8 g6 HG5 HF5 HG57
          go_upto_region 20 with fail
          rw [← hV7]
          clear hV7
          obtain ⟨r7, hr7⟩ : ∃ r7, r7 = u6.heap.size := ⟨_, rfl⟩
          rw [← hr7] at HF7 ⊢
          clear hr7
          have M41 := mk41 V7
          obtain ⟨V8, hV8⟩ : ∃ V8, V8 = V7.alloc (.cells (knZ 41) 3) := ⟨_, rfl⟩
          have HG78 : Hid (V7.grownBy V8 none) := by rw [hV8]; exact World.grownBy_alloc _ _ none
          have C9 := pprint_len (exOk b) b (exES u v) plShut (some ⟨V7.heap.size, 0, none⟩) 41 41 V8 (HB1.out.keep (grown_trans HG7.out HG78.out)) rfl (by decide)
          go_wp2_with fail
          rw [← hV8]
          clear hV8 M41
          refine C9.mono ?_
          rintro e u9 ⟨rfl, g9⟩
          obtain ⟨V9, hV9⟩ : ∃ V9, V9 = u9.alloc (.cells #[.int .i64 9, .int .i64 (-1)] 34) := ⟨_, rfl⟩
          have HG79 : Hid (V7.grownBy V9 none) := by rw [hV9]; exact grown_push (grown_trans HG78.out g9) _
          have HF9 : Hid (FAt V9 r3 0 0 ∧ FAt V9 r5 0 0 ∧ FAt V9 r7 0 0 ∧ FAt V9 u9.heap.size 9 (-1)) := ⟨HF7.out.1.keep HG79.out, HF7.out.2.1.keep HG79.out, HF7.out.2.2.keep HG79.out, by rw [hV9]; exact alloc_at u9 _ _⟩
          have HG9 : Hid (U1.grownBy V9 none) := grown_trans HG7.out HG79.out
          clear C9 g9 HG7 HG78 HG79 HF7
          go_upto_region 21 with fail
          rw [← hV9]
          clear hV9
          obtain ⟨r9, hr9⟩ : ∃ r9, r9 = u9.heap.size := ⟨_, rfl⟩
          rw [← hr9] at HF9 ⊢
          clear hr9
          obtain ⟨Va, hVa⟩ : ∃ Va, Va = V9.alloc (.cells #[.int .i64 1, .int .i64 0] 3) := ⟨_, rfl⟩
          have HG9a : Hid (V9.grownBy Va none) := by rw [hVa]; exact World.grownBy_alloc _ _ none
          have HGa := grown_trans HG9.out HG9a.out
          have Ca := pprint_any (exOk b) b (exES u v) plShut (some ⟨V9.heap.size, 0, none⟩) 2 2 [1, 0] Va (HB1.out.keep HGa) (Nat.le_refl _) (lit_rd (by rw [hVa]; exact alloc_at V9 _ _) rfl) (HL1.out.keep HGa)
          rw [dx_prF, dx_prX, kn10, kn12] at Ca
          unfold fv2 at Ca
          clear HGa
          go_wp2_with fail
          rw [← hVa]
          clear hVa
          refine Ca.mono ?_
          rintro e ub ⟨rfl, gb⟩
          obtain ⟨Vb, hVb⟩ : ∃ Vb, Vb = ub.alloc (.cells #[.int .i64 6, .int .i64 1] 34) := ⟨_, rfl⟩
          have HG9b : Hid (V9.grownBy Vb none) := by rw [hVb]; exact grown_push (grown_trans HG9a.out gb) _
          have HFb : Hid (FAt Vb r3 0 0 ∧ FAt Vb r5 0 0 ∧ FAt Vb r7 0 0 ∧ FAt Vb r9 9 (-1) ∧ FAt Vb ub.heap.size 6 1) := ⟨HF9.out.1.keep HG9b.out, HF9.out.2.1.keep HG9b.out, HF9.out.2.2.1.keep HG9b.out, HF9.out.2.2.2.keep HG9b.out, by rw [hVb]; exact alloc_at ub _ _⟩
          have HGb : Hid (U1.grownBy Vb none) := grown_trans HG9.out HG9b.out
          have Cb := awake_any Vb (HL1.out.keep HGb.out)
          clear Ca gb HG9 HG9a HG9b HF9
          go_upto_region 22 with fail
          rw [← hVb]
          clear hVb
          obtain ⟨rb, hrb⟩ : ∃ rb, rb = ub.heap.size := ⟨_, rfl⟩
          rw [← hrb] at HFb ⊢
          clear hrb
          go_wp2_with fail
          refine Cb.mono ?_
          rintro e uc ⟨rfl, gc⟩
          have p0 := (HFb.out.1.keep gc).c0
          have p1 := (HFb.out.1.keep gc).c1
          have q0 := (HFb.out.2.1.keep gc).c0
          have q1 := (HFb.out.2.1.keep gc).c1
          have s0 := (HFb.out.2.2.1.keep gc).c0
          have s1 := (HFb.out.2.2.1.keep gc).c1
          have x0 := (HFb.out.2.2.2.1.keep gc).c0
          have x1 := (HFb.out.2.2.2.1.keep gc).c1
          have y0 := (HFb.out.2.2.2.2.keep gc).c0
          have y1 := (HFb.out.2.2.2.2.keep gc).c1
          have HGf : Hid (w.grownBy uc none) := grown_trans HG1.out (grown_trans HGb.out gc)
          clear Cb gc HFb HGb HG1 HB1 HL1
          go_wp2_with fail
          go_ret
          exact ⟨rfl, HGf.out⟩
        · have hlt' : (k : Int) < 40 := by omega
          have hk0 : (0 : Int) ≤ (k : Int) := by omega
          have hc := HI.out.2.cell hlt
          have hf := HI.out.2.free k
          have hsm : Small k := by unfold Small; omega
          have HN : Hid (LnAt (U1.setCell ⟨g, k, none⟩ (.int .i64 1)) g (k + 1)) := HI.out.2.put hlt
          have HGn : Hid (W0.grownBy (U1.setCell ⟨g, k, none⟩ (.int .i64 1)) none) := grown_own HI.out.1 (grown_set _ _ _ _) (fun x e => by cases e; exact HGV.out.2)
          clear HI
          go_wp2_with fail
          go_roundw
          case rel => exact ⟨k + 1, hlt, by first | rfl | (simp only [IntKind.wrap_i64]; congr 1; omega), HGn.out, HN.out⟩
          case measure => first | (simp only [intOf]; omega) | (simp [intOf, IntKind.wrap_i64]; omega)
end Go.Proofs.YtbcggjacjfcldaaGreatDoor
