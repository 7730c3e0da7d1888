/-
  DeckAll, of every fill, list, text and number.
-/
import Derived.Test.YtbcggjacjfcldaaGreatDoorDkBk
import Derived.Test.YtbcggjacjfcldaaGreatDoorRkF
namespace Go.Proofs.YtbcggjacjfcldaaGreatDoor
open Go.RowKit

set_option maxHeartbeats 8000000 in
set_option maxRecDepth 100000 in
theorem dall_big1 (ca ma : Option Addr) (ck mk : Nat) (op : Bool) (cs : List Ent) (ms : List Mk) (a : Option Addr) (n c : Nat) (s : ByteArray) (x : Int) (w : World) (h1 : 80 < cs.length) : Calls Tryz.prog 3 #[.agg #[.slice ca cs.length ck, .slice ma ms.length mk, .bool op], .slice a n c, .string s, .int .i64 x] w fun e w' => e = .returned (.bool true) ∧ w.grownBy w' none := by
  obtain ⟨W1, hW1⟩ : ∃ W1, W1 = w.alloc (.cells #[.slice ca cs.length ck, .slice ma ms.length mk, .bool op] 25) := ⟨_, rfl⟩
  have HG1 : Hid (w.grownBy W1 none) := by rw [hW1]; exact World.grownBy_alloc _ _ none
  have HBx : Hid (FbAt W1 w.heap.size (.slice ca cs.length ck) (.slice ma ms.length mk) op) := by rw [hW1]; exact alloc_at w _ _
  have t1 : (80 : Int) < (cs.length : Int) := by omega
  clear h1
  obtain ⟨f0, hf0⟩ : ∃ f0, f0 = w.heap.size := ⟨_, rfl⟩
  go_enter Tryz.func3, Tryz.ntmps3
  go_upto_region 1 with fail
  rw [← hW1, ← hf0]
  rw [← hf0] at HBx
  clear hW1 hf0
  have x0 := block_cell HBx.out 0
  have x1 := block_cell HBx.out 1
  go_wp2_with fail
  go_ret
  exact ⟨rfl, HG1.out⟩
set_option maxHeartbeats 8000000 in
set_option maxRecDepth 100000 in
theorem dall_big2 (ca ma : Option Addr) (ck mk : Nat) (op : Bool) (cs : List Ent) (ms : List Mk) (a : Option Addr) (n c : Nat) (s : ByteArray) (x : Int) (w : World) (h1 : ¬ 80 < cs.length) (h2 : 20 < ms.length) : Calls Tryz.prog 3 #[.agg #[.slice ca cs.length ck, .slice ma ms.length mk, .bool op], .slice a n c, .string s, .int .i64 x] w fun e w' => e = .returned (.bool true) ∧ w.grownBy w' none := by
  obtain ⟨W1, hW1⟩ : ∃ W1, W1 = w.alloc (.cells #[.slice ca cs.length ck, .slice ma ms.length mk, .bool op] 25) := ⟨_, rfl⟩
  have HG1 : Hid (w.grownBy W1 none) := by rw [hW1]; exact World.grownBy_alloc _ _ none
  have HBx : Hid (FbAt W1 w.heap.size (.slice ca cs.length ck) (.slice ma ms.length mk) op) := by rw [hW1]; exact alloc_at w _ _
  have t1 : ¬ (80 : Int) < (cs.length : Int) := by omega
  have t2 : (20 : Int) < (ms.length : Int) := by omega
  clear h1 h2
  obtain ⟨f0, hf0⟩ : ∃ f0, f0 = w.heap.size := ⟨_, rfl⟩
  go_enter Tryz.func3, Tryz.ntmps3
  go_upto_region 1 with fail
  rw [← hW1, ← hf0]
  rw [← hf0] at HBx
  clear hW1 hf0
  have x0 := block_cell HBx.out 0
  have x1 := block_cell HBx.out 1
  go_wp2_with fail
  go_ret
  exact ⟨rfl, HG1.out⟩
set_option maxHeartbeats 8000000 in
set_option maxRecDepth 100000 in
theorem dall_big3 (ca ma : Option Addr) (ck mk : Nat) (op : Bool) (cs : List Ent) (ms : List Mk) (a : Option Addr) (n c : Nat) (s : ByteArray) (x : Int) (w : World) (h1 : ¬ 80 < cs.length) (h2 : ¬ 20 < ms.length) (h3 : 300 < n) : Calls Tryz.prog 3 #[.agg #[.slice ca cs.length ck, .slice ma ms.length mk, .bool op], .slice a n c, .string s, .int .i64 x] w fun e w' => e = .returned (.bool true) ∧ w.grownBy w' none := by
  obtain ⟨W1, hW1⟩ : ∃ W1, W1 = w.alloc (.cells #[.slice ca cs.length ck, .slice ma ms.length mk, .bool op] 25) := ⟨_, rfl⟩
  have HG1 : Hid (w.grownBy W1 none) := by rw [hW1]; exact World.grownBy_alloc _ _ none
  have HBx : Hid (FbAt W1 w.heap.size (.slice ca cs.length ck) (.slice ma ms.length mk) op) := by rw [hW1]; exact alloc_at w _ _
  have t1 : ¬ (80 : Int) < (cs.length : Int) := by omega
  have t2 : ¬ (20 : Int) < (ms.length : Int) := by omega
  have t3 : (300 : Int) < (n : Int) := by omega
  clear h1 h2 h3
  obtain ⟨f0, hf0⟩ : ∃ f0, f0 = w.heap.size := ⟨_, rfl⟩
  go_enter Tryz.func3, Tryz.ntmps3
  go_upto_region 1 with fail
  rw [← hW1, ← hf0]
  rw [← hf0] at HBx
  clear hW1 hf0
  have x0 := block_cell HBx.out 0
  have x1 := block_cell HBx.out 1
  go_wp2_with fail
  go_ret
  exact ⟨rfl, HG1.out⟩
set_option maxHeartbeats 8000000 in
set_option maxRecDepth 100000 in
theorem dall_big4 (ca ma : Option Addr) (ck mk : Nat) (op : Bool) (cs : List Ent) (ms : List Mk) (a : Option Addr) (n c : Nat) (s : ByteArray) (x : Int) (w : World) (h1 : ¬ 80 < cs.length) (h2 : ¬ 20 < ms.length) (h3 : ¬ 300 < n) (h4 : 3000 < s.size) : Calls Tryz.prog 3 #[.agg #[.slice ca cs.length ck, .slice ma ms.length mk, .bool op], .slice a n c, .string s, .int .i64 x] w fun e w' => e = .returned (.bool true) ∧ w.grownBy w' none := by
  obtain ⟨W1, hW1⟩ : ∃ W1, W1 = w.alloc (.cells #[.slice ca cs.length ck, .slice ma ms.length mk, .bool op] 25) := ⟨_, rfl⟩
  have HG1 : Hid (w.grownBy W1 none) := by rw [hW1]; exact World.grownBy_alloc _ _ none
  have HBx : Hid (FbAt W1 w.heap.size (.slice ca cs.length ck) (.slice ma ms.length mk) op) := by rw [hW1]; exact alloc_at w _ _
  have t1 : ¬ (80 : Int) < (cs.length : Int) := by omega
  have t2 : ¬ (20 : Int) < (ms.length : Int) := by omega
  have t3 : ¬ (300 : Int) < (n : Int) := by omega
  have t4 : (3000 : Int) < (s.size : Int) := by omega
  clear h1 h2 h3 h4
  obtain ⟨f0, hf0⟩ : ∃ f0, f0 = w.heap.size := ⟨_, rfl⟩
  go_enter Tryz.func3, Tryz.ntmps3
  go_upto_region 1 with fail
  rw [← hW1, ← hf0]
  rw [← hf0] at HBx
  clear hW1 hf0
  have x0 := block_cell HBx.out 0
  have x1 := block_cell HBx.out 1
  go_wp2_with fail
  go_ret
  exact ⟨rfl, HG1.out⟩
set_option maxHeartbeats 8000000 in
set_option maxRecDepth 100000 in
theorem dall_main (ca ma : Option Addr) (ck mk : Nat) (op : Bool) (cs : List Ent) (ms : List Mk) (a : Option Addr) (n c : Nat) (l : List Int) (s : ByteArray) (x : Int) (w : World) (F : FiA w (.slice ca cs.length ck) (.slice ma ms.length mk) cs ms) (R : Rd w a n l) (hnc : n ≤ c) (LB : LibAt w) (HIA : IntsA w (.slice a n c) l) (h1 : ¬ 80 < cs.length) (h2 : ¬ 20 < ms.length) (h3 : ¬ 300 < n) (h4 : ¬ 3000 < s.size) : Calls Tryz.prog 3 #[.agg #[.slice ca cs.length ck, .slice ma ms.length mk, .bool op], .slice a n c, .string s, .int .i64 x] w fun e w' => e = .returned (.bool true) ∧ w.grownBy w' none := by
  obtain ⟨W1, hW1⟩ : ∃ W1, W1 = w.alloc (.cells #[.slice ca cs.length ck, .slice ma ms.length mk, .bool op] 25) := ⟨_, rfl⟩
  have HG1 : Hid (w.grownBy W1 none) := by rw [hW1]; exact World.grownBy_alloc _ _ none
  have HBx : Hid (FbAt W1 w.heap.size (.slice ca cs.length ck) (.slice ma ms.length mk) op) := by rw [hW1]; exact alloc_at w _ _
  have t1 : ¬ (80 : Int) < (cs.length : Int) := by omega
  have t2 : ¬ (20 : Int) < (ms.length : Int) := by omega
  have t3 : ¬ (300 : Int) < (n : Int) := by omega
  have t4 : ¬ (3000 : Int) < (s.size : Int) := by omega
  have HFi : Hid (FiA w (.slice ca cs.length ck) (.slice ma ms.length mk) cs ms) := F
  have HRd : Hid (Rd w a n l ∧ n ≤ c) := ⟨R, hnc⟩
  have HLb : Hid (LibAt w) := LB
  have HLe : Hid (cs.length ≤ 80 ∧ ms.length ≤ 20 ∧ n ≤ 300 ∧ s.size ≤ 3000) := ⟨by omega, by omega, by omega, by omega⟩
  clear F R hnc LB h1 h2 h3 h4
  obtain ⟨f0, hf0⟩ : ∃ f0, f0 = w.heap.size := ⟨_, rfl⟩
  go_enter Tryz.func3, Tryz.ntmps3
  go_upto_region 1 with fail
  rw [← hW1, ← hf0]
  rw [← hf0] at HBx
  clear hW1 hf0
  have x0 := block_cell HBx.out 0
  have x1 := block_cell HBx.out 1
  have x2 := block_cell HBx.out 2
  have HBk := books_any (.slice ca cs.length ck) (.slice ma ms.length mk) op cs ms W1 (HFi.out.keep HG1.out) HLe.out.1 HLe.out.2.1
  obtain ⟨nb, hnb⟩ : ∃ nb, nb = W1.heap.size + 1 := ⟨_, rfl⟩
  rw [← hnb] at HBk
  clear hnb
  go_wp2_with fail
  refine HBk.mono ?_
  intro e w3 Q3
  obtain ⟨vv, es, fs, p, rfl, P3, -, g3⟩ := Q3
  have HG3 : Hid (w.grownBy w3 none) := grown_trans HG1.out g3
  have HB3 : Hid (Book (okB nb) w3 nb es p) := P3.book
  have HR3 : Hid (RB (okB nb) w3 (nb + 1) vv p fs) := P3.rb
  have HSame : Hid (es.map hp = fs.map hp) := P3.same
  have hln : l.length = n := HRd.out.1.1.symm
  have HLn : Hid (l.length = n) := hln
  have HIa : Hid (IntsA w (.slice a n c) l) := HIA
  have HLt := lentI_any (.slice a n c) l w3 (HIa.out.keep HG3.out) (by rw [hln]; have := HLe.out; omega)
  rw [hln] at HLt
  have nn1 : (n : Int) ≤ (n : Int) + 2 := by omega
  have nn0 : (0 : Int) ≤ (n : Int) := by omega
  clear HBk P3 g3 x0 x1 x2 HBx hln HIA
  go_wp2_with fail
  refine HLt.mono ?_
  rintro e w4 ⟨rfl, o4, g4⟩
  obtain ⟨G, hG⟩ : ∃ G, G = w3.heap.size := ⟨_, rfl⟩
  rw [← hG] at o4 ⊢
  have HO4 : Hid (w4.ownsRow G 3 1 (.slice (some ⟨G, 0, none⟩) (n + 2) (n + 2)) (n + 2) (ints (l ++ [-77, -77]))) := o4
  have HG4 : Hid (w.grownBy w4 none ∧ w3.grownBy w4 none) := ⟨grown_trans HG3.out g4, g4⟩
  have HRd4 : Hid (Rd w4 (some ⟨G, 0, none⟩) n l) := lent_rd o4 HLn.out.symm
  have HPr := pprint_any (okB nb) nb es p (some ⟨G, 0, none⟩) n (n + 2) l w4 (HB3.out.keep g4) (by omega) HRd4.out (HLb.out.keep HG4.out.1)
  obtain ⟨X, hX⟩ : ∃ X : ByteArray, X = ⟨(prX p es l).toArray⟩ := ⟨_, rfl⟩
  obtain ⟨e1, he1⟩ : ∃ e1, e1 = (prF p es l).1 := ⟨_, rfl⟩
  obtain ⟨e2, he2⟩ : ∃ e2, e2 = (prF p es l).2 := ⟨_, rfl⟩
  unfold fv2 at HPr
  rw [← hX, ← he1, ← he2] at HPr
  have HXe : Hid (X = ⟨(prX p fs l).toArray⟩ ∧ e1 = (prF p fs l).1 ∧ e2 = (prF p fs l).2) := ⟨by rw [hX, hp_prX HSame.out], by rw [he1, hp_prF HSame.out], by rw [he2, hp_prF HSame.out]⟩
  clear HLt o4 g4 hX he1 he2 hG
  go_wp2_with fail
  refine HPr.mono ?_
  rintro e w5 ⟨rfl, g5⟩
  obtain ⟨W6, hW6⟩ : ∃ W6, W6 = w5.alloc (.cells #[.int .i64 e1, .int .i64 e2] 34) := ⟨_, rfl⟩
  have HSW6 : Hid (w4.grownBy W6 none) := by rw [hW6]; exact grown_push g5 _
  have HFW6 : Hid (FAt W6 w5.heap.size e1 e2) := by rw [hW6]; exact alloc_at w5 _ _
  clear HPr g5
  go_upto_region 9 with fail
  rw [← hW6]
  clear hW6
  obtain ⟨b6, hb6⟩ : ∃ b6, b6 = w5.heap.size := ⟨_, rfl⟩
  rw [← hb6] at HFW6 ⊢
  clear hb6
  have HG6 : Hid (w.grownBy W6 none) := grown_trans HG4.out.1 HSW6.out
  have HPq := rkprint_any (okB nb) (nb + 1) vv p fs a n c l W6 ((HR3.out.keep HG4.out.2).keep HSW6.out) (HRd.out.1.keep HG6.out)
  unfold fv2 at HPq
  rw [← HXe.out.1, ← HXe.out.2.1, ← HXe.out.2.2] at HPq
  clear HXe
  go_wp2_with fail
  refine HPq.mono ?_
  rintro e w7 ⟨rfl, g7⟩
  obtain ⟨W8, hW8⟩ : ∃ W8, W8 = w7.alloc (.cells #[.int .i64 e1, .int .i64 e2] 34) := ⟨_, rfl⟩
  have HSW8 : Hid (W6.grownBy W8 none) := by rw [hW8]; exact grown_push g7 _
  have HFW8 : Hid (FAt W8 w7.heap.size e1 e2) := by rw [hW8]; exact alloc_at w7 _ _
  clear HPq g7
  go_upto_region 10 with fail
  rw [← hW8]
  clear hW8
  obtain ⟨b8, hb8⟩ : ∃ b8, b8 = w7.heap.size := ⟨_, rfl⟩
  rw [← hb8] at HFW8 ⊢
  clear hb8
  have HG8 : Hid (w.grownBy W8 none ∧ w4.grownBy W8 none) := ⟨grown_trans HG6.out HSW8.out, grown_trans HSW6.out HSW8.out⟩
  have hs47 : s.size ≤ 140737488355328 := by have := HLe.out; omega
  have HPa := fun (W : World) (g : w4.grownBy W none) => pparse_any (okB nb) nb es p s W ((HB3.out.keep HG4.out.2).keep g) hs47 ((HLb.out.keep HG4.out.1).keep g)
  have HPb := fun (W : World) (g : w4.grownBy W none) => rkparse_any (okB nb) (nb + 1) vv p fs s W ((HR3.out.keep HG4.out.2).keep g) hs47
  obtain ⟨D, hD⟩ : ∃ D, D = paD p es s.data.toList := ⟨_, rfl⟩
  rw [← hp_pa HSame.out, ← hD] at HPb
  rw [← hD] at HPa
  obtain ⟨d1, hd1⟩ : ∃ d1, d1 = (pf D).1 := ⟨_, rfl⟩
  obtain ⟨d2, hd2⟩ : ∃ d2, d2 = (pf D).2 := ⟨_, rfl⟩
  obtain ⟨m, hm⟩ : ∃ m, m = (pl D).length := ⟨_, rfl⟩
  have HDd : Hid (d1 = (pf D).1 ∧ d2 = (pf D).2 ∧ m = (pl D).length) := ⟨hd1, hd2, hm⟩
  clear hD hd1 hd2 hm hs47
  have HPk := HPa W8 HG8.out.2
  go_wp2_with fail
  refine HPk.mono ?_
  intro e w9 Q9
  obtain ⟨a9, c9, rfl, o9, g9⟩ := Q9.any
  rw [← HDd.out.1, ← HDd.out.2.1, ← HDd.out.2.2]
  rw [← HDd.out.2.2] at o9
  obtain ⟨W10, hW10⟩ : ∃ W10, W10 = w9.alloc (.cells #[.int .i64 d1, .int .i64 d2] 34) := ⟨_, rfl⟩
  have HSW10 : Hid (W8.grownBy W10 none) := by rw [hW10]; exact grown_push g9 _
  have HFW10 : Hid (FAt W10 w9.heap.size d1 d2) := by rw [hW10]; exact alloc_at w9 _ _
  have HO9 : Hid (W10.ownsRow W8.heap.size 3 1 (.slice a9 m c9) m (ints (pl D))) := by rw [hW10]; exact own_kp o9 (World.grownBy_alloc _ _ none)
  clear HPk Q9 o9 g9
  go_upto_region 11 with fail
  rw [← hW10]
  clear hW10
  obtain ⟨b10, hb10⟩ : ∃ b10, b10 = w9.heap.size := ⟨_, rfl⟩
  rw [← hb10] at HFW10 ⊢
  clear hb10
  have HG10 : Hid (w4.grownBy W10 none) := grown_trans HG8.out.2 HSW10.out
  have HPk := HPa W10 HG10.out
  go_wp2_with fail
  refine HPk.mono ?_
  intro e w11 Q11
  obtain ⟨a11, c11, rfl, o11, g11⟩ := Q11.any
  rw [← HDd.out.1, ← HDd.out.2.1, ← HDd.out.2.2]
  rw [← HDd.out.2.2] at o11
  obtain ⟨W12, hW12⟩ : ∃ W12, W12 = w11.alloc (.cells #[.int .i64 d1, .int .i64 d2] 34) := ⟨_, rfl⟩
  have HSW12 : Hid (W10.grownBy W12 none) := by rw [hW12]; exact grown_push g11 _
  have HFW12 : Hid (FAt W12 w11.heap.size d1 d2) := by rw [hW12]; exact alloc_at w11 _ _
  have HO11 : Hid (W12.ownsRow W10.heap.size 3 1 (.slice a11 m c11) m (ints (pl D))) := by rw [hW12]; exact own_kp o11 (World.grownBy_alloc _ _ none)
  clear HPk Q11 o11 g11
  go_upto_region 12 with fail
  rw [← hW12]
  clear hW12
  obtain ⟨b12, hb12⟩ : ∃ b12, b12 = w11.heap.size := ⟨_, rfl⟩
  rw [← hb12] at HFW12 ⊢
  clear hb12
  have HG12 : Hid (w4.grownBy W12 none) := grown_trans HG10.out HSW12.out
  clear HPa
  have HPk := HPb W12 HG12.out
  go_wp2_with fail
  refine HPk.mono ?_
  intro e w13 Q13
  obtain ⟨a13, c13, rfl, o13, g13⟩ := Q13.any
  rw [← HDd.out.1, ← HDd.out.2.1, ← HDd.out.2.2]
  rw [← HDd.out.2.2] at o13
  obtain ⟨W14, hW14⟩ : ∃ W14, W14 = w13.alloc (.cells #[.int .i64 d1, .int .i64 d2] 34) := ⟨_, rfl⟩
  have HSW14 : Hid (W12.grownBy W14 none) := by rw [hW14]; exact grown_push g13 _
  have HFW14 : Hid (FAt W14 w13.heap.size d1 d2) := by rw [hW14]; exact alloc_at w13 _ _
  have HO13 : Hid (W14.ownsRow W12.heap.size 3 1 (.slice a13 m c13) m (ints (pl D))) := by rw [hW14]; exact own_kp o13 (World.grownBy_alloc _ _ none)
  clear HPk Q13 o13 g13
  go_upto_region 13 with fail
  rw [← hW14]
  clear hW14
  obtain ⟨b14, hb14⟩ : ∃ b14, b14 = w13.heap.size := ⟨_, rfl⟩
  rw [← hb14] at HFW14 ⊢
  clear hb14
  have HG14 : Hid (w4.grownBy W14 none) := grown_trans HG12.out HSW14.out
  clear HPb
  have HFs : Hid (FAt W14 b6 e1 e2 ∧ FAt W14 b8 e1 e2 ∧ FAt W14 b10 d1 d2 ∧ FAt W14 b12 d1 d2 ∧ FAt W14 b14 d1 d2) := ⟨(((HFW6.out.keep HSW8.out).keep HSW10.out).keep HSW12.out).keep HSW14.out, ((HFW8.out.keep HSW10.out).keep HSW12.out).keep HSW14.out, (HFW10.out.keep HSW12.out).keep HSW14.out, HFW12.out.keep HSW14.out, HFW14.out⟩
  have HOs : Hid (W14.ownsRow W8.heap.size 3 1 (.slice a9 m c9) m (ints (pl D)) ∧ W14.ownsRow W10.heap.size 3 1 (.slice a11 m c11) m (ints (pl D)) ∧ W14.ownsRow W12.heap.size 3 1 (.slice a13 m c13) m (ints (pl D))) := ⟨own_kp (own_kp HO9.out HSW12.out) HSW14.out, own_kp HO11.out HSW14.out, HO13.out⟩
  have HLt2 : Hid (∀ x, (Value.slice a9 m c9).ownBlock = some x → x < W10.heap.size) := fun x hx => (World.ownsRow.lt HO9.out x hx).2
  have HSz : Hid (w.heap.size ≤ W8.heap.size ∧ W8.heap.size ≤ W10.heap.size ∧ W10.heap.size ≤ W12.heap.size) := ⟨HG8.out.1.size, HSW10.out.size, HSW12.out.size⟩
  clear HFW6 HFW8 HFW10 HFW12 HFW14 HO9 HO11 HO13 HSW6 HSW8 HSW10 HSW12 HSW14 HG6 HG8 HG10 HG12
  have HGE : Hid (w.grownBy W14 none) := grown_trans HG4.out.1 HG14.out
  have HCk := pcheck_any (okB nb) nb es p (some ⟨G, 0, none⟩) n (n + 2) l W14 ((HB3.out.keep HG4.out.2).keep HG14.out) (HRd4.out.keep HG14.out)
  obtain ⟨k1, hk1⟩ : ∃ k1, k1 = (ckF p es l).1 := ⟨_, rfl⟩
  obtain ⟨k2, hk2⟩ : ∃ k2, k2 = (ckF p es l).2 := ⟨_, rfl⟩
  unfold fv2 at HCk
  rw [← hk1, ← hk2] at HCk
  have HK : Hid (k1 = (ckF p fs l).1 ∧ k2 = (ckF p fs l).2) := ⟨by rw [hk1, hp_ck HSame.out], by rw [hk2, hp_ck HSame.out]⟩
  clear hk1 hk2
  go_wp2_with fail
  refine HCk.mono ?_
  rintro e w15 ⟨rfl, g15⟩
  have HG15 : Hid (W14.grownBy w15 none) := g15
  have HCr := rkcheck_any (okB nb) (nb + 1) vv p fs a n c l w15 (((HR3.out.keep HG4.out.2).keep HG14.out).keep g15) HRd.out.2 (HRd.out.1.keep (grown_trans HGE.out g15))
  unfold fv2 at HCr
  rw [← HK.out.1, ← HK.out.2] at HCr
  clear HCk g15 HK
  go_wp2_with fail
  refine HCr.mono ?_
  rintro e w16 ⟨rfl, g16⟩
  have HG16 : Hid (W14.grownBy w16 none) := grown_trans HG15.out g16
  have hsmn : Small n := by unfold Small; have := HLe.out; omega
  have HN1 := count_any (some ⟨G, 0, none⟩) n (n + 2) l x w16 ((HRd4.out.keep HG14.out).keep HG16.out) hsmn
  have HN2 := rcount_any a n c l x w16 (HRd.out.1.keep (grown_trans HGE.out HG16.out)) hsmn
  obtain ⟨ct, hct⟩ : ∃ ct : Int, ct = ((l.count x : Nat) : Int) := ⟨_, rfl⟩
  rw [← hct] at HN1 HN2
  clear HCr g16 hct hsmn HG15
  have q1 : (k1 != k1) = false := by simp
  have q2 : (ct != ct) = false := by simp
  have q3 : (X.toList == X.toList) = true := by simp
  go_wp2_with fail
  refine HN1.mono ?_
  rintro e w17 ⟨rfl, hw⟩
  obtain rfl : w16 = w17 := hw.symm
  go_wp2_with fail
  refine HN2.mono ?_
  rintro e w17 ⟨rfl, hw⟩
  obtain rfl : w16 = w17 := hw.symm
  have F1 := HFs.out.1.keep HG16.out
  have F2 := HFs.out.2.1.keep HG16.out
  have F3 := HFs.out.2.2.1.keep HG16.out
  have F4 := HFs.out.2.2.2.1.keep HG16.out
  have F5 := HFs.out.2.2.2.2.keep HG16.out
  have y0 := F1.c0; have y1 := F1.c1; have y2 := F2.c0; have y3 := F2.c1; have y4 := F3.c0; have y5 := F3.c1; have y6 := F4.c0; have y7 := F4.c1; have y8 := F5.c0; have y9 := F5.c1
  have HKp := keptI_any (.slice (some ⟨G, 0, none⟩) (n + 2) (n + 2)) (.slice a n c) G l w16 (by
    have := own_kp (own_kp HO4.out HG14.out) HG16.out
    unfold L.Own
    rw [List.length_append, HLn.out]
    exact this) (HIa.out.keep (grown_trans HGE.out HG16.out)) (by rw [HLn.out]; have := HLe.out; omega)
  clear HN1 HN2 F1 F2 F3 F4 F5
  go_wp2_with fail
  refine HKp.mono ?_
  rintro e w18 ⟨rfl, g18⟩
  have HG18 : Hid (W14.grownBy w18 none) := grown_trans HG16.out g18
  clear HKp g18 y0 y1 y2 y3 y4 y5 y6 y7 y8 y9
  obtain ⟨z9, zc9, ez9, RR9, hmx, _⟩ := own_rd (own_kp HOs.out.1 HG18.out)
  injection ez9 with ez1 _ ez2
  subst ez1
  subst ez2
  obtain ⟨z11, zc11, ez11, RR11, _, _⟩ := own_rd (own_kp HOs.out.2.1 HG18.out)
  injection ez11 with ez3 _ ez4
  subst ez3
  subst ez4
  obtain ⟨z13, zc13, ez13, RR13, _, _⟩ := own_rd (own_kp HOs.out.2.2 HG18.out)
  injection ez13 with ez5 _ ez6
  subst ez5
  subst ez6
  have HS1 := L.same_ints (.slice a9 m c9) (.slice a13 m c13) (pl D) (pl D) w18 (rd_at RR9 hmx) (rd_at RR13 hmx)
  rw [decide_eq_true rfl] at HS1
  have HRR : Hid (Rd w18 a11 m (pl D) ∧ Rd w18 a13 m (pl D) ∧ (pl D).length ≤ maxLen) := ⟨RR11, RR13, hmx⟩
  clear RR9 RR11 RR13 hmx
  go_wp2_with fail
  refine HS1.mono ?_
  rintro e w19 ⟨rfl, k19, hw19⟩
  have HG19 : Hid (w18.grownBy w19 none) := by rw [hw19]; exact grown_drewN _ _ _
  have HS2 := L.same_ints (.slice a11 m c11) (.slice a13 m c13) (pl D) (pl D) w19 (rd_at (HRR.out.1.keep HG19.out) HRR.out.2.2) (rd_at (HRR.out.2.1.keep HG19.out) HRR.out.2.2)
  rw [decide_eq_true rfl] at HS2
  clear HS1 hw19
  go_wp2_with fail
  refine HS2.mono ?_
  rintro e w20 ⟨rfl, k20, hw20⟩
  have HG20 : Hid (W14.grownBy w20 none) := by rw [hw20]; exact grown_trans (grown_trans HG18.out HG19.out) (grown_drewN _ _ _)
  obtain ⟨W21, hW21⟩ : ∃ W21, W21 = w20.alloc (.cells #[.slice a9 m c9, .slice a11 m c11] 26) := ⟨_, rfl⟩
  have HG21 : Hid (W14.grownBy W21 none) := by rw [hW21]; exact grown_push HG20.out _
  have HAp := apart2 (w0 := w) (g := w20.heap.size) (grown_trans HGE.out HG21.out) (own_kp HOs.out.1 HG21.out) (own_kp HOs.out.2.1 HG21.out) HSz.out.1 (Nat.le_trans HSz.out.1 HSz.out.2.1) HLt2.out (by rw [hW21]; exact alloc_at w20 _ _)
  clear HS2 hw20
  go_wp2_with fail
  rw [← hW21]
  clear hW21
  refine HAp.mono ?_
  rintro e w22 ⟨rfl, g22⟩
  have HG22 : Hid (w.grownBy w22 none) := g22
  clear HAp g22
  go_wp2_with fail
  go_ret
  exact ⟨rfl, HG22.out⟩
theorem deckAll_any (vc vm : Value) (op : Bool) (cs : List Ent) (ms : List Mk) (a : Option Addr) (n c : Nat) (l : List Int) (s : ByteArray) (x : Int) (w : World) (F : FiA w vc vm cs ms) (O : IntsB w (.slice a n c) l) (LB : LibAt w) : Calls Tryz.prog 3 #[.agg #[vc, vm, .bool op], .slice a n c, .string s, .int .i64 x] w fun e w' => e = .returned (.bool true) ∧ w.grownBy w' none := by
  obtain ⟨ca, ck, rfl, _⟩ := F.c
  obtain ⟨ma, mk, rfl, _⟩ := F.m
  obtain ⟨R, hnc⟩ := intsB_rd O
  by_cases h1 : 80 < cs.length
  · exact dall_big1 ca ma ck mk op cs ms a n c s x w h1
  by_cases h2 : 20 < ms.length
  · exact dall_big2 ca ma ck mk op cs ms a n c s x w h1 h2
  by_cases h3 : 300 < n
  · exact dall_big3 ca ma ck mk op cs ms a n c s x w h1 h2 h3
  by_cases h4 : 3000 < s.size
  · exact dall_big4 ca ma ck mk op cs ms a n c s x w h1 h2 h3 h4
  exact dall_main ca ma ck mk op cs ms a n c l s x w F R hnc LB O.a h1 h2 h3 h4
end Go.Proofs.YtbcggjacjfcldaaGreatDoor
