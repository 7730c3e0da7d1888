/-
  Layers: which things may be,which may lie on the table;what is refused.
-/
import Derived.Test.YthfjgpjcepmnmaaGreatZ0
import Derived.Test.YthfjgpjcepmnmaaGreatZ17
import Derived.Test.YthfjgpjcepmnmaaGreatZ22
namespace Go.Proofs.YthfjgpjcepmnmaaGreat
set_option maxRecDepth 100000
set_option maxHeartbeats 4000000
open Go.RowKit

theorem isPlayer_any (x:Int) (w:World):Calls Tryz.prog 274 #[.int .i64 x] w fun e w'=>e=.returned (.bool (isPl x))∧w'=w:=by
 by_cases h0:x=0
 ·subst h0
  go_enter Tryz.func274,Tryz.ntmps274
  go_wp2
  go_ret
  exact⟨rfl,rfl⟩
 ·have e0:(x == 0)=false:=by simpa using h0
  have HE:Hid (isPl x=(x == 1)):=by show isPl x=_;unfold isPl;rw[beq_dec];simp[h0]
  clear h0
  go_enter Tryz.func274,Tryz.ntmps274
  go_wp2
  go_ret
  exact⟨ret_bb HE.out.symm,rfl⟩
theorem lmayBe_0 (bv:Value) (t:Th) (n:Int) (w:World) (h1:decide (1≤t.card)=false) (HL:∀ X,w.grownBy X none→Calls Tryz.prog 273 #[bv] X fun e w'=>e=.returned (.int .i64 n)∧X.grownBy w' none):Calls Tryz.prog 216 #[bv,thv t] w fun e w'=>e=.returned (.bool false)∧w.grownBy w' none:=by
 obtain⟨W1,hW1⟩:∃ W1,W1=w.alloc (.cells #[.int .i64 t.card,.int .i64 t.owner,.int .u8 t.place,.int .i64 t.stamp,.int .i64 t.hurt,.int .i64 t.m0,.int .i64 t.m1,.int .i64 t.m2,.int .i64 t.m3,.int .i64 t.done,.bool t.fresh] 100):=⟨_,rfl⟩
 have HG1:Hid (w.grownBy W1 none):=by rw[hW1];exact World.grownBy_alloc _ _ none
 have HB:Hid (ThB W1 w.heap.size t):=by rw[hW1];exact alloc_at w _ _
 have HLen:Hid (∀ X,W1.grownBy X none→Calls Tryz.prog 273 #[bv] X fun e w'=>e=.returned (.int .i64 n)∧X.grownBy w' none):=fun X g=>HL X (grown_trans HG1.out g)
 have HPl:=isPlayer_any t.owner
 unfold thv
 clear HL
 go_enter Tryz.func216,Tryz.ntmps216
 go_upto_region 1 with fail
 rw[←hW1]
 clear hW1
 obtain⟨n0,h0⟩:∃ n0,n0=w.heap.size:=⟨_,rfl⟩
 simp only[←h0] at HB ⊢
 clear h0
 obtain⟨x0,x1,x2,x3,x4,x5,x6,x7,x8,x9,x10⟩:=th_box HB.out
 refine wp_region_held_drew (S:=fun w'=>W1.grownBy w' none) (by kernel_rfl) (grown_drew _) (fun hHeld=>?_)
 refine QZ 0 rfl ?_
 go_frame
 refine QT 1 rfl (by intro w0 hSw;have x0:=hSw.cell x0 (by simp);go_simp;try with_reducible rfl) ?_
 go_frame
 refine QZ 2 rfl ?_
 go_frame
 refine QZ 3 rfl ?_
 go_frame
 refine QN 4 rfl ?_
 go_frame
 refine QN 5 rfl ?_
 go_frame
 refine QN 6 rfl ?_
 go_frame
 refine QR 7 rfl (fun K hK=>?_)
 rw[if_neg (Bool.eq_false_iff.1 (by rfl))]
 refine hK.out _ _ (by assumption) (fun hHeld2=>?_)
 clear hK K
 (try go_frame)
 refine QN 8 rfl ?_
 go_frame
 refine QZ 9 rfl ?_
 go_frame
 refine QZ 10 rfl ?_
 go_frame
 refine QN 11 rfl ?_
 go_frame
 refine QN 12 rfl ?_
 go_frame
 refine QR 13 rfl (fun K hK=>?_)
 rw[if_neg (Bool.eq_false_iff.1 (by rfl))]
 refine hK.out _ _ (by assumption) (fun hHeld2=>?_)
 clear hK K
 (try go_frame)
 refine QZ 14 rfl ?_
 go_frame
 refine QZ 15 rfl ?_
 go_frame
 refine QN 16 rfl ?_
 go_frame
 refine QN 17 rfl ?_
 go_frame
 refine QN 18 rfl ?_
 go_frame
 refine QZ 19 rfl ?_
 go_frame
 refine QZ 20 rfl ?_
 go_frame
 refine QN 21 rfl ?_
 go_frame
 refine QN 22 rfl ?_
 go_frame
 refine QN 23 rfl ?_
 go_frame
 refine QZ 24 rfl ?_
 go_frame
 refine QZ 25 rfl ?_
 go_frame
 refine QD ?_
 go_wp2_with fail
 go_ret
 exact⟨rfl,grown_trans HG1.out (grown_drew _)⟩
theorem lmayBe_1 (bv:Value) (t:Th) (n:Int) (w:World) (h1:decide (1≤t.card)=true) (h2:decide (t.card≤n)=false) (HL:∀ X,w.grownBy X none→Calls Tryz.prog 273 #[bv] X fun e w'=>e=.returned (.int .i64 n)∧X.grownBy w' none):Calls Tryz.prog 216 #[bv,thv t] w fun e w'=>e=.returned (.bool false)∧w.grownBy w' none:=by
 obtain⟨W1,hW1⟩:∃ W1,W1=w.alloc (.cells #[.int .i64 t.card,.int .i64 t.owner,.int .u8 t.place,.int .i64 t.stamp,.int .i64 t.hurt,.int .i64 t.m0,.int .i64 t.m1,.int .i64 t.m2,.int .i64 t.m3,.int .i64 t.done,.bool t.fresh] 100):=⟨_,rfl⟩
 have HG1:Hid (w.grownBy W1 none):=by rw[hW1];exact World.grownBy_alloc _ _ none
 have HB:Hid (ThB W1 w.heap.size t):=by rw[hW1];exact alloc_at w _ _
 have HLen:Hid (∀ X,W1.grownBy X none→Calls Tryz.prog 273 #[bv] X fun e w'=>e=.returned (.int .i64 n)∧X.grownBy w' none):=fun X g=>HL X (grown_trans HG1.out g)
 have HPl:=isPlayer_any t.owner
 unfold thv
 clear HL
 go_enter Tryz.func216,Tryz.ntmps216
 go_upto_region 1 with fail
 rw[←hW1]
 clear hW1
 obtain⟨n0,h0⟩:∃ n0,n0=w.heap.size:=⟨_,rfl⟩
 simp only[←h0] at HB ⊢
 clear h0
 obtain⟨x0,x1,x2,x3,x4,x5,x6,x7,x8,x9,x10⟩:=th_box HB.out
 refine wp_region_held_drew (S:=fun w'=>W1.grownBy w' none) (by kernel_rfl) (grown_drew _) (fun hHeld=>?_)
 refine QZ 0 rfl ?_
 go_frame
 refine QT 1 rfl (by intro w0 hSw;have x0:=hSw.cell x0 (by simp);go_simp;try with_reducible rfl) ?_
 go_frame
 refine QZ 2 rfl ?_
 go_frame
 refine QZ 3 rfl ?_
 go_frame
 refine QZ 4 rfl ?_
 go_frame
 refine QT 5 rfl (by intro w0 hSw;have x0:=hSw.cell x0 (by simp);go_simp;try with_reducible rfl) ?_
 go_frame
 refine QZ 6 rfl ?_
 go_frame
 refine QR 7 rfl (fun K hK=>?_)
 rw[if_pos (by rfl)]
 go_simp
 go_at_call 273
 refine(HLen.out _ (grown_drew _)).mono ?_
 rintro e2 w2 ⟨rfl,g2⟩
 have HG2:Hid (W1.grownBy w2 none):=grown_trans (grown_drew _) g2
 clear g2
 refine hK.out _ _ (HG2.out) (fun hHeld2=>?_)
 clear hK K
 (try go_frame)
 refine QZ 8 rfl ?_
 go_frame
 refine QZ 9 rfl ?_
 go_frame
 refine QZ 10 rfl ?_
 go_frame
 refine QN 11 rfl ?_
 go_frame
 refine QN 12 rfl ?_
 go_frame
 refine QR 13 rfl (fun K hK=>?_)
 rw[if_neg (Bool.eq_false_iff.1 (by rfl))]
 refine hK.out _ _ (by assumption) (fun hHeld2=>?_)
 clear hK K
 (try go_frame)
 refine QZ 14 rfl ?_
 go_frame
 refine QZ 15 rfl ?_
 go_frame
 refine QN 16 rfl ?_
 go_frame
 refine QN 17 rfl ?_
 go_frame
 refine QN 18 rfl ?_
 go_frame
 refine QZ 19 rfl ?_
 go_frame
 refine QZ 20 rfl ?_
 go_frame
 refine QN 21 rfl ?_
 go_frame
 refine QN 22 rfl ?_
 go_frame
 refine QN 23 rfl ?_
 go_frame
 refine QZ 24 rfl ?_
 go_frame
 refine QZ 25 rfl ?_
 go_frame
 refine QD ?_
 go_wp2_with fail
 go_ret
 exact⟨rfl,grown_trans HG1.out HG2.out⟩
theorem lmayBe_2 (bv:Value) (t:Th) (n:Int) (w:World) (h1:decide (1≤t.card)=true) (h2:decide (t.card≤n)=true) (h3:isPl t.owner=false) (HL:∀ X,w.grownBy X none→Calls Tryz.prog 273 #[bv] X fun e w'=>e=.returned (.int .i64 n)∧X.grownBy w' none):Calls Tryz.prog 216 #[bv,thv t] w fun e w'=>e=.returned (.bool false)∧w.grownBy w' none:=by
 obtain⟨W1,hW1⟩:∃ W1,W1=w.alloc (.cells #[.int .i64 t.card,.int .i64 t.owner,.int .u8 t.place,.int .i64 t.stamp,.int .i64 t.hurt,.int .i64 t.m0,.int .i64 t.m1,.int .i64 t.m2,.int .i64 t.m3,.int .i64 t.done,.bool t.fresh] 100):=⟨_,rfl⟩
 have HG1:Hid (w.grownBy W1 none):=by rw[hW1];exact World.grownBy_alloc _ _ none
 have HB:Hid (ThB W1 w.heap.size t):=by rw[hW1];exact alloc_at w _ _
 have HLen:Hid (∀ X,W1.grownBy X none→Calls Tryz.prog 273 #[bv] X fun e w'=>e=.returned (.int .i64 n)∧X.grownBy w' none):=fun X g=>HL X (grown_trans HG1.out g)
 have HPl:=isPlayer_any t.owner
 rw[h3] at HPl
 unfold thv
 clear HL h3
 go_enter Tryz.func216,Tryz.ntmps216
 go_upto_region 1 with fail
 rw[←hW1]
 clear hW1
 obtain⟨n0,h0⟩:∃ n0,n0=w.heap.size:=⟨_,rfl⟩
 simp only[←h0] at HB ⊢
 clear h0
 obtain⟨x0,x1,x2,x3,x4,x5,x6,x7,x8,x9,x10⟩:=th_box HB.out
 refine wp_region_held_drew (S:=fun w'=>W1.grownBy w' none) (by kernel_rfl) (grown_drew _) (fun hHeld=>?_)
 refine QZ 0 rfl ?_
 go_frame
 refine QT 1 rfl (by intro w0 hSw;have x0:=hSw.cell x0 (by simp);go_simp;try with_reducible rfl) ?_
 go_frame
 refine QZ 2 rfl ?_
 go_frame
 refine QZ 3 rfl ?_
 go_frame
 refine QZ 4 rfl ?_
 go_frame
 refine QT 5 rfl (by intro w0 hSw;have x0:=hSw.cell x0 (by simp);go_simp;try with_reducible rfl) ?_
 go_frame
 refine QZ 6 rfl ?_
 go_frame
 refine QR 7 rfl (fun K hK=>?_)
 rw[if_pos (by rfl)]
 go_simp
 go_at_call 273
 refine(HLen.out _ (grown_drew _)).mono ?_
 rintro e2 w2 ⟨rfl,g2⟩
 have HG2:Hid (W1.grownBy w2 none):=grown_trans (grown_drew _) g2
 clear g2
 refine hK.out _ _ (HG2.out) (fun hHeld2=>?_)
 clear hK K
 (try go_frame)
 refine QZ 8 rfl ?_
 go_frame
 refine QZ 9 rfl ?_
 go_frame
 refine QZ 10 rfl ?_
 go_frame
 refine QZ 11 rfl ?_
 go_frame
 refine QT 12 rfl (by intro w0 hSw;have x1:=hSw.cell x1 (by simp);go_simp;try with_reducible rfl) ?_
 go_frame
 refine QR 13 rfl (fun K hK=>?_)
 rw[if_pos (by rfl)]
 go_simp
 go_at_call 274
 refine(HPl _).mono ?_
 rintro e3 w3 ⟨rfl,h3⟩
 obtain rfl:w2=w3:=h3.symm
 refine hK.out _ _ (HG2.out) (fun hHeld2=>?_)
 clear hK K
 (try go_frame)
 refine QZ 14 rfl ?_
 go_frame
 refine QZ 15 rfl ?_
 go_frame
 refine QN 16 rfl ?_
 go_frame
 refine QN 17 rfl ?_
 go_frame
 refine QN 18 rfl ?_
 go_frame
 refine QZ 19 rfl ?_
 go_frame
 refine QZ 20 rfl ?_
 go_frame
 refine QN 21 rfl ?_
 go_frame
 refine QN 22 rfl ?_
 go_frame
 refine QN 23 rfl ?_
 go_frame
 refine QZ 24 rfl ?_
 go_frame
 refine QZ 25 rfl ?_
 go_frame
 refine QD ?_
 go_wp2_with fail
 go_ret
 exact⟨rfl,grown_trans HG1.out HG2.out⟩
theorem lmayBe_3 (bv:Value) (t:Th) (n:Int) (w:World) (h1:decide (1≤t.card)=true) (h2:decide (t.card≤n)=true) (h3:isPl t.owner=true) (h4:decide (1≤t.place)=false) (HL:∀ X,w.grownBy X none→Calls Tryz.prog 273 #[bv] X fun e w'=>e=.returned (.int .i64 n)∧X.grownBy w' none):Calls Tryz.prog 216 #[bv,thv t] w fun e w'=>e=.returned (.bool false)∧w.grownBy w' none:=by
 obtain⟨W1,hW1⟩:∃ W1,W1=w.alloc (.cells #[.int .i64 t.card,.int .i64 t.owner,.int .u8 t.place,.int .i64 t.stamp,.int .i64 t.hurt,.int .i64 t.m0,.int .i64 t.m1,.int .i64 t.m2,.int .i64 t.m3,.int .i64 t.done,.bool t.fresh] 100):=⟨_,rfl⟩
 have HG1:Hid (w.grownBy W1 none):=by rw[hW1];exact World.grownBy_alloc _ _ none
 have HB:Hid (ThB W1 w.heap.size t):=by rw[hW1];exact alloc_at w _ _
 have HLen:Hid (∀ X,W1.grownBy X none→Calls Tryz.prog 273 #[bv] X fun e w'=>e=.returned (.int .i64 n)∧X.grownBy w' none):=fun X g=>HL X (grown_trans HG1.out g)
 have HPl:=isPlayer_any t.owner
 rw[h3] at HPl
 unfold thv
 clear HL h3
 go_enter Tryz.func216,Tryz.ntmps216
 go_upto_region 1 with fail
 rw[←hW1]
 clear hW1
 obtain⟨n0,h0⟩:∃ n0,n0=w.heap.size:=⟨_,rfl⟩
 simp only[←h0] at HB ⊢
 clear h0
 obtain⟨x0,x1,x2,x3,x4,x5,x6,x7,x8,x9,x10⟩:=th_box HB.out
 refine wp_region_held_drew (S:=fun w'=>W1.grownBy w' none) (by kernel_rfl) (grown_drew _) (fun hHeld=>?_)
 refine QZ 0 rfl ?_
 go_frame
 refine QT 1 rfl (by intro w0 hSw;have x0:=hSw.cell x0 (by simp);go_simp;try with_reducible rfl) ?_
 go_frame
 refine QZ 2 rfl ?_
 go_frame
 refine QZ 3 rfl ?_
 go_frame
 refine QZ 4 rfl ?_
 go_frame
 refine QT 5 rfl (by intro w0 hSw;have x0:=hSw.cell x0 (by simp);go_simp;try with_reducible rfl) ?_
 go_frame
 refine QZ 6 rfl ?_
 go_frame
 refine QR 7 rfl (fun K hK=>?_)
 rw[if_pos (by rfl)]
 go_simp
 go_at_call 273
 refine(HLen.out _ (grown_drew _)).mono ?_
 rintro e2 w2 ⟨rfl,g2⟩
 have HG2:Hid (W1.grownBy w2 none):=grown_trans (grown_drew _) g2
 clear g2
 refine hK.out _ _ (HG2.out) (fun hHeld2=>?_)
 clear hK K
 (try go_frame)
 refine QZ 8 rfl ?_
 go_frame
 refine QZ 9 rfl ?_
 go_frame
 refine QZ 10 rfl ?_
 go_frame
 refine QZ 11 rfl ?_
 go_frame
 refine QT 12 rfl (by intro w0 hSw;have x1:=hSw.cell x1 (by simp);go_simp;try with_reducible rfl) ?_
 go_frame
 refine QR 13 rfl (fun K hK=>?_)
 rw[if_pos (by rfl)]
 go_simp
 go_at_call 274
 refine(HPl _).mono ?_
 rintro e3 w3 ⟨rfl,h3⟩
 obtain rfl:w2=w3:=h3.symm
 refine hK.out _ _ (HG2.out) (fun hHeld2=>?_)
 clear hK K
 (try go_frame)
 refine QZ 14 rfl ?_
 go_frame
 refine QZ 15 rfl ?_
 go_frame
 refine QZ 16 rfl ?_
 go_frame
 refine QT 17 rfl (by intro w0 hSw;have x2:=hSw.cell x2 (by simp);go_simp;try with_reducible rfl) ?_
 go_frame
 refine QZ 18 rfl ?_
 go_frame
 refine QZ 19 rfl ?_
 go_frame
 refine QZ 20 rfl ?_
 go_frame
 refine QN 21 rfl ?_
 go_frame
 refine QN 22 rfl ?_
 go_frame
 refine QN 23 rfl ?_
 go_frame
 refine QZ 24 rfl ?_
 go_frame
 refine QZ 25 rfl ?_
 go_frame
 refine QD ?_
 go_wp2_with fail
 go_ret
 exact⟨rfl,grown_trans HG1.out HG2.out⟩
theorem lmayBe_4 (bv:Value) (t:Th) (n:Int) (w:World) (h1:decide (1≤t.card)=true) (h2:decide (t.card≤n)=true) (h3:isPl t.owner=true) (h4:decide (1≤t.place)=true) (h5:decide (t.place≤5)=false) (HL:∀ X,w.grownBy X none→Calls Tryz.prog 273 #[bv] X fun e w'=>e=.returned (.int .i64 n)∧X.grownBy w' none):Calls Tryz.prog 216 #[bv,thv t] w fun e w'=>e=.returned (.bool false)∧w.grownBy w' none:=by
 obtain⟨W1,hW1⟩:∃ W1,W1=w.alloc (.cells #[.int .i64 t.card,.int .i64 t.owner,.int .u8 t.place,.int .i64 t.stamp,.int .i64 t.hurt,.int .i64 t.m0,.int .i64 t.m1,.int .i64 t.m2,.int .i64 t.m3,.int .i64 t.done,.bool t.fresh] 100):=⟨_,rfl⟩
 have HG1:Hid (w.grownBy W1 none):=by rw[hW1];exact World.grownBy_alloc _ _ none
 have HB:Hid (ThB W1 w.heap.size t):=by rw[hW1];exact alloc_at w _ _
 have HLen:Hid (∀ X,W1.grownBy X none→Calls Tryz.prog 273 #[bv] X fun e w'=>e=.returned (.int .i64 n)∧X.grownBy w' none):=fun X g=>HL X (grown_trans HG1.out g)
 have HPl:=isPlayer_any t.owner
 rw[h3] at HPl
 unfold thv
 clear HL h3
 go_enter Tryz.func216,Tryz.ntmps216
 go_upto_region 1 with fail
 rw[←hW1]
 clear hW1
 obtain⟨n0,h0⟩:∃ n0,n0=w.heap.size:=⟨_,rfl⟩
 simp only[←h0] at HB ⊢
 clear h0
 obtain⟨x0,x1,x2,x3,x4,x5,x6,x7,x8,x9,x10⟩:=th_box HB.out
 refine wp_region_held_drew (S:=fun w'=>W1.grownBy w' none) (by kernel_rfl) (grown_drew _) (fun hHeld=>?_)
 refine QZ 0 rfl ?_
 go_frame
 refine QT 1 rfl (by intro w0 hSw;have x0:=hSw.cell x0 (by simp);go_simp;try with_reducible rfl) ?_
 go_frame
 refine QZ 2 rfl ?_
 go_frame
 refine QZ 3 rfl ?_
 go_frame
 refine QZ 4 rfl ?_
 go_frame
 refine QT 5 rfl (by intro w0 hSw;have x0:=hSw.cell x0 (by simp);go_simp;try with_reducible rfl) ?_
 go_frame
 refine QZ 6 rfl ?_
 go_frame
 refine QR 7 rfl (fun K hK=>?_)
 rw[if_pos (by rfl)]
 go_simp
 go_at_call 273
 refine(HLen.out _ (grown_drew _)).mono ?_
 rintro e2 w2 ⟨rfl,g2⟩
 have HG2:Hid (W1.grownBy w2 none):=grown_trans (grown_drew _) g2
 clear g2
 refine hK.out _ _ (HG2.out) (fun hHeld2=>?_)
 clear hK K
 (try go_frame)
 refine QZ 8 rfl ?_
 go_frame
 refine QZ 9 rfl ?_
 go_frame
 refine QZ 10 rfl ?_
 go_frame
 refine QZ 11 rfl ?_
 go_frame
 refine QT 12 rfl (by intro w0 hSw;have x1:=hSw.cell x1 (by simp);go_simp;try with_reducible rfl) ?_
 go_frame
 refine QR 13 rfl (fun K hK=>?_)
 rw[if_pos (by rfl)]
 go_simp
 go_at_call 274
 refine(HPl _).mono ?_
 rintro e3 w3 ⟨rfl,h3⟩
 obtain rfl:w2=w3:=h3.symm
 refine hK.out _ _ (HG2.out) (fun hHeld2=>?_)
 clear hK K
 (try go_frame)
 refine QZ 14 rfl ?_
 go_frame
 refine QZ 15 rfl ?_
 go_frame
 refine QZ 16 rfl ?_
 go_frame
 refine QT 17 rfl (by intro w0 hSw;have x2:=hSw.cell x2 (by simp);go_simp;try with_reducible rfl) ?_
 go_frame
 refine QZ 18 rfl ?_
 go_frame
 refine QZ 19 rfl ?_
 go_frame
 refine QZ 20 rfl ?_
 go_frame
 refine QZ 21 rfl ?_
 go_frame
 refine QT 22 rfl (by intro w0 hSw;have x2:=hSw.cell x2 (by simp);go_simp;try with_reducible rfl) ?_
 go_frame
 refine QZ 23 rfl ?_
 go_frame
 refine QZ 24 rfl ?_
 go_frame
 refine QZ 25 rfl ?_
 go_frame
 refine QD ?_
 go_wp2_with fail
 go_ret
 exact⟨rfl,grown_trans HG1.out HG2.out⟩
theorem lmayBe_5 (bv:Value) (t:Th) (n:Int) (w:World) (h1:decide (1≤t.card)=true) (h2:decide (t.card≤n)=true) (h3:isPl t.owner=true) (h4:decide (1≤t.place)=true) (h5:decide (t.place≤5)=true) (HL:∀ X,w.grownBy X none→Calls Tryz.prog 273 #[bv] X fun e w'=>e=.returned (.int .i64 n)∧X.grownBy w' none):Calls Tryz.prog 216 #[bv,thv t] w fun e w'=>e=.returned (.bool true)∧w.grownBy w' none:=by
 obtain⟨W1,hW1⟩:∃ W1,W1=w.alloc (.cells #[.int .i64 t.card,.int .i64 t.owner,.int .u8 t.place,.int .i64 t.stamp,.int .i64 t.hurt,.int .i64 t.m0,.int .i64 t.m1,.int .i64 t.m2,.int .i64 t.m3,.int .i64 t.done,.bool t.fresh] 100):=⟨_,rfl⟩
 have HG1:Hid (w.grownBy W1 none):=by rw[hW1];exact World.grownBy_alloc _ _ none
 have HB:Hid (ThB W1 w.heap.size t):=by rw[hW1];exact alloc_at w _ _
 have HLen:Hid (∀ X,W1.grownBy X none→Calls Tryz.prog 273 #[bv] X fun e w'=>e=.returned (.int .i64 n)∧X.grownBy w' none):=fun X g=>HL X (grown_trans HG1.out g)
 have HPl:=isPlayer_any t.owner
 rw[h3] at HPl
 unfold thv
 clear HL h3
 go_enter Tryz.func216,Tryz.ntmps216
 go_upto_region 1 with fail
 rw[←hW1]
 clear hW1
 obtain⟨n0,h0⟩:∃ n0,n0=w.heap.size:=⟨_,rfl⟩
 simp only[←h0] at HB ⊢
 clear h0
 obtain⟨x0,x1,x2,x3,x4,x5,x6,x7,x8,x9,x10⟩:=th_box HB.out
 refine wp_region_held_drew (S:=fun w'=>W1.grownBy w' none) (by kernel_rfl) (grown_drew _) (fun hHeld=>?_)
 refine QZ 0 rfl ?_
 go_frame
 refine QT 1 rfl (by intro w0 hSw;have x0:=hSw.cell x0 (by simp);go_simp;try with_reducible rfl) ?_
 go_frame
 refine QZ 2 rfl ?_
 go_frame
 refine QZ 3 rfl ?_
 go_frame
 refine QZ 4 rfl ?_
 go_frame
 refine QT 5 rfl (by intro w0 hSw;have x0:=hSw.cell x0 (by simp);go_simp;try with_reducible rfl) ?_
 go_frame
 refine QZ 6 rfl ?_
 go_frame
 refine QR 7 rfl (fun K hK=>?_)
 rw[if_pos (by rfl)]
 go_simp
 go_at_call 273
 refine(HLen.out _ (grown_drew _)).mono ?_
 rintro e2 w2 ⟨rfl,g2⟩
 have HG2:Hid (W1.grownBy w2 none):=grown_trans (grown_drew _) g2
 clear g2
 refine hK.out _ _ (HG2.out) (fun hHeld2=>?_)
 clear hK K
 (try go_frame)
 refine QZ 8 rfl ?_
 go_frame
 refine QZ 9 rfl ?_
 go_frame
 refine QZ 10 rfl ?_
 go_frame
 refine QZ 11 rfl ?_
 go_frame
 refine QT 12 rfl (by intro w0 hSw;have x1:=hSw.cell x1 (by simp);go_simp;try with_reducible rfl) ?_
 go_frame
 refine QR 13 rfl (fun K hK=>?_)
 rw[if_pos (by rfl)]
 go_simp
 go_at_call 274
 refine(HPl _).mono ?_
 rintro e3 w3 ⟨rfl,h3⟩
 obtain rfl:w2=w3:=h3.symm
 refine hK.out _ _ (HG2.out) (fun hHeld2=>?_)
 clear hK K
 (try go_frame)
 refine QZ 14 rfl ?_
 go_frame
 refine QZ 15 rfl ?_
 go_frame
 refine QZ 16 rfl ?_
 go_frame
 refine QT 17 rfl (by intro w0 hSw;have x2:=hSw.cell x2 (by simp);go_simp;try with_reducible rfl) ?_
 go_frame
 refine QZ 18 rfl ?_
 go_frame
 refine QZ 19 rfl ?_
 go_frame
 refine QZ 20 rfl ?_
 go_frame
 refine QZ 21 rfl ?_
 go_frame
 refine QT 22 rfl (by intro w0 hSw;have x2:=hSw.cell x2 (by simp);go_simp;try with_reducible rfl) ?_
 go_frame
 refine QZ 23 rfl ?_
 go_frame
 refine QZ 24 rfl ?_
 go_frame
 refine QZ 25 rfl ?_
 go_frame
 refine QD ?_
 go_wp2_with fail
 go_ret
 exact⟨rfl,grown_trans HG1.out HG2.out⟩
theorem lmayBe_any (bv:Value) (t:Th) (n:Int) (w:World) (HL:∀ X,w.grownBy X none→Calls Tryz.prog 273 #[bv] X fun e w'=>e=.returned (.int .i64 n)∧X.grownBy w' none):Calls Tryz.prog 216 #[bv,thv t] w fun e w'=>e=.returned (.bool (mayBeB n t))∧w.grownBy w' none:=by
 unfold mayBeB
 cases h1:decide (1≤t.card) with
 | false=>exact lmayBe_0 bv t n w h1 HL
 | true =>
  cases h2:decide (t.card≤n) with
  | false=>exact lmayBe_1 bv t n w h1 h2 HL
  | true =>
   cases h3:isPl t.owner with
   | false=>exact lmayBe_2 bv t n w h1 h2 h3 HL
   | true =>
    cases h4:decide (1≤t.place) with
    | false=>exact lmayBe_3 bv t n w h1 h2 h3 h4 HL
    | true =>
     cases h5:decide (t.place≤5) with
     | false=>exact lmayBe_4 bv t n w h1 h2 h3 h4 h5 HL
     | true=>exact lmayBe_5 bv t n w h1 h2 h3 h4 h5 HL
theorem lmayLie_0 (t:Th) (f:Fe) (w:World) (h1:decide (0<t.stamp)=false):Calls Tryz.prog 217 #[thv t,fev f] w fun e w'=>e=.returned (.bool false)∧w.grownBy w' none:=by
 obtain⟨W1,hW1⟩:∃ W1,W1=(w.alloc (.cells #[.int .i64 t.card,.int .i64 t.owner,.int .u8 t.place,.int .i64 t.stamp,.int .i64 t.hurt,.int .i64 t.m0,.int .i64 t.m1,.int .i64 t.m2,.int .i64 t.m3,.int .i64 t.done,.bool t.fresh] 100)).alloc (.cells #[.int .i64 f.ho,.int .u8 f.su,.int .u16 f.tr,.int .i64 f.po,.int .i64 f.he] 65):=⟨_,rfl⟩
 have HG1:Hid (w.grownBy W1 none):=by rw[hW1];exact grown_push (World.grownBy_alloc _ _ none) _
 have HB:Hid (ThB W1 w.heap.size t):=by rw[hW1];exact grown_keep (World.grownBy_alloc _ _ none) (alloc_at w _ _) (by simp)
 have HF:Hid (FeB W1 (w.heap.size+1) f):=by rw[hW1];exact alloc2_b _ _ _ _
 have HPl:=isPlayer_any f.ho
 have HCh:=tcheck_any f.tr
 unfold thv fev
 go_enter Tryz.func217,Tryz.ntmps217
 go_upto_region 1 with fail
 rw[←hW1]
 clear hW1
 obtain⟨n0,h0⟩:∃ n0,n0=w.heap.size:=⟨_,rfl⟩
 simp only[←h0] at HB HF ⊢
 obtain⟨n1,h1'⟩:∃ n1,n1=n0+1:=⟨_,rfl⟩
 simp only[←h1'] at HF ⊢
 clear h0 h1'
 obtain⟨x0,x1,x2,x3,x4,x5,x6,x7,x8,x9,x10⟩:=th_box HB.out
 obtain⟨f0,f1,f2,f3,f4⟩:=fe_box HF.out
 go_wp2_with (first | (go_at_call 274;refine(HPl _).mono ?_;rintro e3 w3 ⟨rfl,h3⟩;obtain rfl:W1=w3:=h3.symm) | (go_at_call 188;refine(HCh _).mono ?_;rintro e3 w3 ⟨rfl,h3⟩;obtain rfl:W1=w3:=h3.symm) | fail)
 go_ret
 exact⟨rfl,HG1.out⟩
theorem lmayLie_1 (t:Th) (f:Fe) (w:World) (h1:decide (0<t.stamp)=true) (h2:isPl f.ho=false):Calls Tryz.prog 217 #[thv t,fev f] w fun e w'=>e=.returned (.bool false)∧w.grownBy w' none:=by
 obtain⟨W1,hW1⟩:∃ W1,W1=(w.alloc (.cells #[.int .i64 t.card,.int .i64 t.owner,.int .u8 t.place,.int .i64 t.stamp,.int .i64 t.hurt,.int .i64 t.m0,.int .i64 t.m1,.int .i64 t.m2,.int .i64 t.m3,.int .i64 t.done,.bool t.fresh] 100)).alloc (.cells #[.int .i64 f.ho,.int .u8 f.su,.int .u16 f.tr,.int .i64 f.po,.int .i64 f.he] 65):=⟨_,rfl⟩
 have HG1:Hid (w.grownBy W1 none):=by rw[hW1];exact grown_push (World.grownBy_alloc _ _ none) _
 have HB:Hid (ThB W1 w.heap.size t):=by rw[hW1];exact grown_keep (World.grownBy_alloc _ _ none) (alloc_at w _ _) (by simp)
 have HF:Hid (FeB W1 (w.heap.size+1) f):=by rw[hW1];exact alloc2_b _ _ _ _
 have HPl:=isPlayer_any f.ho
 have HCh:=tcheck_any f.tr
 rw[h2] at HPl
 clear h2
 unfold thv fev
 go_enter Tryz.func217,Tryz.ntmps217
 go_upto_region 1 with fail
 rw[←hW1]
 clear hW1
 obtain⟨n0,h0⟩:∃ n0,n0=w.heap.size:=⟨_,rfl⟩
 simp only[←h0] at HB HF ⊢
 obtain⟨n1,h1'⟩:∃ n1,n1=n0+1:=⟨_,rfl⟩
 simp only[←h1'] at HF ⊢
 clear h0 h1'
 obtain⟨x0,x1,x2,x3,x4,x5,x6,x7,x8,x9,x10⟩:=th_box HB.out
 obtain⟨f0,f1,f2,f3,f4⟩:=fe_box HF.out
 go_wp2_with (first | (go_at_call 274;refine(HPl _).mono ?_;rintro e3 w3 ⟨rfl,h3⟩;obtain rfl:W1=w3:=h3.symm) | (go_at_call 188;refine(HCh _).mono ?_;rintro e3 w3 ⟨rfl,h3⟩;obtain rfl:W1=w3:=h3.symm) | fail)
 go_ret
 exact⟨rfl,HG1.out⟩
theorem lmayLie_2 (t:Th) (f:Fe) (w:World) (h1:decide (0<t.stamp)=true) (h2:isPl f.ho=true) (h3:tCheck f.tr=false):Calls Tryz.prog 217 #[thv t,fev f] w fun e w'=>e=.returned (.bool false)∧w.grownBy w' none:=by
 obtain⟨W1,hW1⟩:∃ W1,W1=(w.alloc (.cells #[.int .i64 t.card,.int .i64 t.owner,.int .u8 t.place,.int .i64 t.stamp,.int .i64 t.hurt,.int .i64 t.m0,.int .i64 t.m1,.int .i64 t.m2,.int .i64 t.m3,.int .i64 t.done,.bool t.fresh] 100)).alloc (.cells #[.int .i64 f.ho,.int .u8 f.su,.int .u16 f.tr,.int .i64 f.po,.int .i64 f.he] 65):=⟨_,rfl⟩
 have HG1:Hid (w.grownBy W1 none):=by rw[hW1];exact grown_push (World.grownBy_alloc _ _ none) _
 have HB:Hid (ThB W1 w.heap.size t):=by rw[hW1];exact grown_keep (World.grownBy_alloc _ _ none) (alloc_at w _ _) (by simp)
 have HF:Hid (FeB W1 (w.heap.size+1) f):=by rw[hW1];exact alloc2_b _ _ _ _
 have HPl:=isPlayer_any f.ho
 have HCh:=tcheck_any f.tr
 rw[h2] at HPl
 clear h2
 rw[h3] at HCh
 clear h3
 unfold thv fev
 go_enter Tryz.func217,Tryz.ntmps217
 go_upto_region 1 with fail
 rw[←hW1]
 clear hW1
 obtain⟨n0,h0⟩:∃ n0,n0=w.heap.size:=⟨_,rfl⟩
 simp only[←h0] at HB HF ⊢
 obtain⟨n1,h1'⟩:∃ n1,n1=n0+1:=⟨_,rfl⟩
 simp only[←h1'] at HF ⊢
 clear h0 h1'
 obtain⟨x0,x1,x2,x3,x4,x5,x6,x7,x8,x9,x10⟩:=th_box HB.out
 obtain⟨f0,f1,f2,f3,f4⟩:=fe_box HF.out
 go_wp2_with (first | (go_at_call 274;refine(HPl _).mono ?_;rintro e3 w3 ⟨rfl,h3⟩;obtain rfl:W1=w3:=h3.symm) | (go_at_call 188;refine(HCh _).mono ?_;rintro e3 w3 ⟨rfl,h3⟩;obtain rfl:W1=w3:=h3.symm) | fail)
 go_ret
 exact⟨rfl,HG1.out⟩
theorem lmayLie_3 (t:Th) (f:Fe) (w:World) (h1:decide (0<t.stamp)=true) (h2:isPl f.ho=true) (h3:tCheck f.tr=true):Calls Tryz.prog 217 #[thv t,fev f] w fun e w'=>e=.returned (.bool true)∧w.grownBy w' none:=by
 obtain⟨W1,hW1⟩:∃ W1,W1=(w.alloc (.cells #[.int .i64 t.card,.int .i64 t.owner,.int .u8 t.place,.int .i64 t.stamp,.int .i64 t.hurt,.int .i64 t.m0,.int .i64 t.m1,.int .i64 t.m2,.int .i64 t.m3,.int .i64 t.done,.bool t.fresh] 100)).alloc (.cells #[.int .i64 f.ho,.int .u8 f.su,.int .u16 f.tr,.int .i64 f.po,.int .i64 f.he] 65):=⟨_,rfl⟩
 have HG1:Hid (w.grownBy W1 none):=by rw[hW1];exact grown_push (World.grownBy_alloc _ _ none) _
 have HB:Hid (ThB W1 w.heap.size t):=by rw[hW1];exact grown_keep (World.grownBy_alloc _ _ none) (alloc_at w _ _) (by simp)
 have HF:Hid (FeB W1 (w.heap.size+1) f):=by rw[hW1];exact alloc2_b _ _ _ _
 have HPl:=isPlayer_any f.ho
 have HCh:=tcheck_any f.tr
 rw[h2] at HPl
 clear h2
 rw[h3] at HCh
 clear h3
 unfold thv fev
 go_enter Tryz.func217,Tryz.ntmps217
 go_upto_region 1 with fail
 rw[←hW1]
 clear hW1
 obtain⟨n0,h0⟩:∃ n0,n0=w.heap.size:=⟨_,rfl⟩
 simp only[←h0] at HB HF ⊢
 obtain⟨n1,h1'⟩:∃ n1,n1=n0+1:=⟨_,rfl⟩
 simp only[←h1'] at HF ⊢
 clear h0 h1'
 obtain⟨x0,x1,x2,x3,x4,x5,x6,x7,x8,x9,x10⟩:=th_box HB.out
 obtain⟨f0,f1,f2,f3,f4⟩:=fe_box HF.out
 go_wp2_with (first | (go_at_call 274;refine(HPl _).mono ?_;rintro e3 w3 ⟨rfl,h3⟩;obtain rfl:W1=w3:=h3.symm) | (go_at_call 188;refine(HCh _).mono ?_;rintro e3 w3 ⟨rfl,h3⟩;obtain rfl:W1=w3:=h3.symm) | fail)
 go_ret
 exact⟨rfl,HG1.out⟩
theorem lmayLie_any (t:Th) (f:Fe) (w:World):Calls Tryz.prog 217 #[thv t,fev f] w fun e w'=>e=.returned (.bool (mayLieB t f))∧w.grownBy w' none:=by
 unfold mayLieB
 cases h1:decide (0<t.stamp) with
 | false=>exact lmayLie_0 t f w h1
 | true =>
  cases h2:isPl f.ho with
  | false=>exact lmayLie_1 t f w h1 h2
  | true =>
   cases h3:tCheck f.tr with
   | false=>exact lmayLie_2 t f w h1 h2 h3
   | true=>exact lmayLie_3 t f w h1 h2 h3
def refE (p:Pl) (n:Nat):Int:=if 2048<n then 3 else if p.shut=true then 0 else 2
theorem lrefusal_book (ok:Nat→Prop) (b:Nat) (es:List Ent) (p:Pl) (q:Option Addr) (n c:Nat) (w:World) (B:Book ok w b es p):Calls Tryz.prog 155 #[.pointer (some ⟨b,0,none⟩),.slice q n c] w fun e w'=>e=.returned (.int .i64 (refE p n))∧w.grownBy w' none:=by
 have HA:=at_own ok b es p 0 w B
 unfold CaPost at HA
 have hx:¬atIn p es 0:=fun h=>by have:=h.2.1;omega
 rw[atX_out hx,atC_out hx] at HA
 unfold cv Hd.none at HA
 have HS:Hid (∀ X,w.grownBy X none→Calls Tryz.prog 73 #[.pointer (some ⟨b,0,none⟩)] X fun e w'=>e=.returned (.bool p.shut)∧w'=X):=fun X g=>sealed_yes b es.length p X (B.keep g).lies.flags
 obtain⟨r,hr⟩:∃ r,r=refE p n:=⟨_,rfl⟩
 have HR:Hid (r=refE p n):=hr
 rw[←hr]
 clear B hx hr
 go_enter Tryz.func155,Tryz.ntmps155
 go_wp2_with fail
 refine HA.mono ?_
 rintro e w2 ⟨u,rfl,o2,g2⟩
 obtain⟨a2,k2,rfl⟩:=o2.at.form
 have HG2:Hid (w.grownBy w2 none):=g2
 clear HA o2 g2
 by_cases h1:2048<n
 ·have HE:Hid (r=3):=by show r=3;rw[HR.out];exact if_pos h1
  have hn:(2048:Int)<(n:Int):=by omega
  clear h1
  go_wp2_with fail
  go_ret
  exact⟨ret_i64 HE.out.symm,grown_push HG2.out _⟩
 ·have hn:decide ((2048:Int)<(n:Int))=false:=decide_eq_false (by omega)
  cases hp:p.shut with
  | true =>
   have HE:Hid (r=0):=by show r=0;rw[HR.out];unfold refE;rw[if_neg h1,if_pos hp]
   rw[hp] at HS
   clear h1
   go_wp2_with (go_at_call 73;refine(HS.out _ (grown_push HG2.out _)).mono ?_;rintro e3 w3 ⟨rfl,rfl⟩)
   go_ret
   exact⟨ret_i64 HE.out.symm,grown_push HG2.out _⟩
  | false =>
   have HE:Hid (r=2):=by show r=2;rw[HR.out];unfold refE;rw[if_neg h1,if_neg (by rw[hp];decide)]
   rw[hp] at HS
   clear h1
   go_wp2_with (go_at_call 73;refine(HS.out _ (grown_push HG2.out _)).mono ?_;rintro e3 w3 ⟨rfl,rfl⟩)
   go_ret
   exact⟨ret_i64 HE.out.symm,grown_push HG2.out _⟩
theorem lrefusal_no (v:Value) (q:Option Addr) (n c:Nat) (w:World) (B:NoBk w v):Calls Tryz.prog 155 #[v,.slice q n c] w fun e w'=>e=.returned (.int .i64 1)∧w.grownBy w' none:=by
 have HA:=at_no v 0 w B
 unfold cv Hd.none at HA
 clear B
 go_enter Tryz.func155,Tryz.ntmps155
 go_wp2_with fail
 refine HA.mono ?_
 rintro e w2 ⟨rfl,g2⟩
 have HG2:Hid (w.grownBy w2 none):=g2
 clear HA g2
 go_wp2_with fail
 go_ret
 exact⟨rfl,grown_push HG2.out _⟩
end Go.Proofs.YthfjgpjcepmnmaaGreat
