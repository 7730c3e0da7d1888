/-

-/
import Derived.Test.YtjmepebbcnhalaaGreatTgC
namespace Go.Proofs.YtjmepebbcnhalaaGreat
set_option maxRecDepth 100000
set_option maxHeartbeats 4000000
open Go.RowKit

theorem ci (x:Int) (w:World):Calls Tryz.prog 252 #[.int .i64 x] w fun e w'=>e=.returned (.bool (fE x))∧w'=w:=by
 by_cases h0:x=0
 ·subst h0
  go_enter Tryz.func252,Tryz.ntmps252
  go_wp2
  go_ret
  exact⟨rfl,rfl⟩
 ·have e0:(x == 0)=false:=by simpa using h0
  have HE:Hid (fE x=(x == 1)):=by show fE x=_;unfold fE;rw[ka];simp[h0]
  clear h0
  go_enter Tryz.func252,Tryz.ntmps252
  go_wp2
  go_ret
  exact⟨cM HE.out.symm,rfl⟩
theorem Ci (bv:Value) (t:Th) (n:Int) (w:World) (h1:decide (1≤t.card)=false) (HL:∀ X,w.grownBy X none→Calls Tryz.prog 251 #[bv] X fun e w'=>e=.returned (.int .i64 n)∧X.grownBy w' none):Calls Tryz.prog 190 #[bv,thv t] w fun e w'=>e=.returned (.bool false)∧w.grownBy w' none:=by
 obtain⟨W1,hW1⟩:=Qe (w.alloc (.cells #[.int .i64 t.card,.int .i64 t.owner,.int .u8 t.place,.int .i64 t.stamp,.int .i64 t.hurt,.int .i64 t.m0,.int .i64 t.m1,.int .i64 t.m2,.int .i64 t.m3,.int .i64 t.done,.bool t.fresh] 120))
 have HG1:Hid (w.grownBy W1 none):=by rw[hW1];exact QG
 have HB:Hid (ThB W1 w.heap.size t):=by rw[hW1];exact ak w _ _
 have HLen:Hid (∀ X,W1.grownBy X none→Calls Tryz.prog 251 #[bv] X fun e w'=>e=.returned (.int .i64 n)∧X.grownBy w' none):=fun X g=>HL X (ae HG1.out g)
 have HPl:=ci t.owner
 unfold thv
 clear HL
 go_enter Tryz.func190,Tryz.ntmps190
 go_upto_region 1 with fail
 rw[←hW1]
 clear hW1
 obtain⟨n0,h0⟩:=Qe (w.heap.size)
 simp only[←h0] at HB ⊢
 clear h0
 obtain⟨x0,x1,x2,x3,x4,x5,x6,x7,x8,x9,x10⟩:=cW HB.out
 refine wp_region_held_drew (S:=fun w'=>W1.grownBy w' none) (by kernel_rfl) (ai _) (fun hHeld=>?_)
 refine QZ 0 rfl ?_
 go_frame
 refine QT 1 rfl (by intro w0 hSw;have x0:=QK hSw x0;go_simp;try with_reducible rfl) ?_
 go_frame
 refine QZ 2 rfl ?_
 go_frame
 refine QZ 3 rfl ?_
 go_frame
 refine QN 4 rfl ?_
 go_frame
 refine QN 5 rfl ?_
 go_frame
 refine QN 6 rfl ?_
 go_frame
 refine QR 7 rfl (fun K hK=>?_)
 rw[if_neg (Bool.eq_false_iff.1 (by rfl))]
 refine hK.out _ _ (by assumption) (fun hHeld2=>?_)
 clear hK K
 (try go_frame)
 refine QN 8 rfl ?_
 go_frame
 refine QZ 9 rfl ?_
 go_frame
 refine QZ 10 rfl ?_
 go_frame
 refine QN 11 rfl ?_
 go_frame
 refine QN 12 rfl ?_
 go_frame
 refine QR 13 rfl (fun K hK=>?_)
 rw[if_neg (Bool.eq_false_iff.1 (by rfl))]
 refine hK.out _ _ (by assumption) (fun hHeld2=>?_)
 clear hK K
 (try go_frame)
 refine QZ 14 rfl ?_
 go_frame
 refine QZ 15 rfl ?_
 go_frame
 refine QN 16 rfl ?_
 go_frame
 refine QN 17 rfl ?_
 go_frame
 refine QN 18 rfl ?_
 go_frame
 refine QZ 19 rfl ?_
 go_frame
 refine QZ 20 rfl ?_
 go_frame
 refine QN 21 rfl ?_
 go_frame
 refine QN 22 rfl ?_
 go_frame
 refine QN 23 rfl ?_
 go_frame
 refine QZ 24 rfl ?_
 go_frame
 refine QZ 25 rfl ?_
 go_frame
 refine QD ?_
 go_wp2_with fail
 go_ret
 exact⟨rfl,ae HG1.out (ai _)⟩
theorem Aj (bv:Value) (t:Th) (n:Int) (w:World) (h1:decide (1≤t.card)=true) (h2:decide (t.card≤n)=false) (HL:∀ X,w.grownBy X none→Calls Tryz.prog 251 #[bv] X fun e w'=>e=.returned (.int .i64 n)∧X.grownBy w' none):Calls Tryz.prog 190 #[bv,thv t] w fun e w'=>e=.returned (.bool false)∧w.grownBy w' none:=by
 obtain⟨W1,hW1⟩:=Qe (w.alloc (.cells #[.int .i64 t.card,.int .i64 t.owner,.int .u8 t.place,.int .i64 t.stamp,.int .i64 t.hurt,.int .i64 t.m0,.int .i64 t.m1,.int .i64 t.m2,.int .i64 t.m3,.int .i64 t.done,.bool t.fresh] 120))
 have HG1:Hid (w.grownBy W1 none):=by rw[hW1];exact QG
 have HB:Hid (ThB W1 w.heap.size t):=by rw[hW1];exact ak w _ _
 have HLen:Hid (∀ X,W1.grownBy X none→Calls Tryz.prog 251 #[bv] X fun e w'=>e=.returned (.int .i64 n)∧X.grownBy w' none):=fun X g=>HL X (ae HG1.out g)
 have HPl:=ci t.owner
 unfold thv
 clear HL
 go_enter Tryz.func190,Tryz.ntmps190
 go_upto_region 1 with fail
 rw[←hW1]
 clear hW1
 obtain⟨n0,h0⟩:=Qe (w.heap.size)
 simp only[←h0] at HB ⊢
 clear h0
 obtain⟨x0,x1,x2,x3,x4,x5,x6,x7,x8,x9,x10⟩:=cW HB.out
 refine wp_region_held_drew (S:=fun w'=>W1.grownBy w' none) (by kernel_rfl) (ai _) (fun hHeld=>?_)
 refine QZ 0 rfl ?_
 go_frame
 refine QT 1 rfl (by intro w0 hSw;have x0:=QK hSw x0;go_simp;try with_reducible rfl) ?_
 go_frame
 refine QZ 2 rfl ?_
 go_frame
 refine QZ 3 rfl ?_
 go_frame
 refine QZ 4 rfl ?_
 go_frame
 refine QT 5 rfl (by intro w0 hSw;have x0:=QK hSw x0;go_simp;try with_reducible rfl) ?_
 go_frame
 refine QZ 6 rfl ?_
 go_frame
 refine QR 7 rfl (fun K hK=>?_)
 rw[if_pos (by rfl)]
 go_simp
 go_at_call 251
 refine(HLen.out _ (ai _)).mono ?_
 rintro e2 w2 ⟨rfl,g2⟩
 have HG2:Hid (W1.grownBy w2 none):=ae (ai _) g2
 clear g2
 refine hK.out _ _ (HG2.out) (fun hHeld2=>?_)
 clear hK K
 (try go_frame)
 refine QZ 8 rfl ?_
 go_frame
 refine QZ 9 rfl ?_
 go_frame
 refine QZ 10 rfl ?_
 go_frame
 refine QN 11 rfl ?_
 go_frame
 refine QN 12 rfl ?_
 go_frame
 refine QR 13 rfl (fun K hK=>?_)
 rw[if_neg (Bool.eq_false_iff.1 (by rfl))]
 refine hK.out _ _ (by assumption) (fun hHeld2=>?_)
 clear hK K
 (try go_frame)
 refine QZ 14 rfl ?_
 go_frame
 refine QZ 15 rfl ?_
 go_frame
 refine QN 16 rfl ?_
 go_frame
 refine QN 17 rfl ?_
 go_frame
 refine QN 18 rfl ?_
 go_frame
 refine QZ 19 rfl ?_
 go_frame
 refine QZ 20 rfl ?_
 go_frame
 refine QN 21 rfl ?_
 go_frame
 refine QN 22 rfl ?_
 go_frame
 refine QN 23 rfl ?_
 go_frame
 refine QZ 24 rfl ?_
 go_frame
 refine QZ 25 rfl ?_
 go_frame
 refine QD ?_
 go_wp2_with fail
 go_ret
 exact⟨rfl,ae HG1.out HG2.out⟩
theorem Ck (bv:Value) (t:Th) (n:Int) (w:World) (h1:decide (1≤t.card)=true) (h2:decide (t.card≤n)=true) (h3:fE t.owner=false) (HL:∀ X,w.grownBy X none→Calls Tryz.prog 251 #[bv] X fun e w'=>e=.returned (.int .i64 n)∧X.grownBy w' none):Calls Tryz.prog 190 #[bv,thv t] w fun e w'=>e=.returned (.bool false)∧w.grownBy w' none:=by
 obtain⟨W1,hW1⟩:=Qe (w.alloc (.cells #[.int .i64 t.card,.int .i64 t.owner,.int .u8 t.place,.int .i64 t.stamp,.int .i64 t.hurt,.int .i64 t.m0,.int .i64 t.m1,.int .i64 t.m2,.int .i64 t.m3,.int .i64 t.done,.bool t.fresh] 120))
 have HG1:Hid (w.grownBy W1 none):=by rw[hW1];exact QG
 have HB:Hid (ThB W1 w.heap.size t):=by rw[hW1];exact ak w _ _
 have HLen:Hid (∀ X,W1.grownBy X none→Calls Tryz.prog 251 #[bv] X fun e w'=>e=.returned (.int .i64 n)∧X.grownBy w' none):=fun X g=>HL X (ae HG1.out g)
 have HPl:=ci t.owner
 rw[h3] at HPl
 unfold thv
 clear HL h3
 go_enter Tryz.func190,Tryz.ntmps190
 go_upto_region 1 with fail
 rw[←hW1]
 clear hW1
 obtain⟨n0,h0⟩:=Qe (w.heap.size)
 simp only[←h0] at HB ⊢
 clear h0
 obtain⟨x0,x1,x2,x3,x4,x5,x6,x7,x8,x9,x10⟩:=cW HB.out
 refine wp_region_held_drew (S:=fun w'=>W1.grownBy w' none) (by kernel_rfl) (ai _) (fun hHeld=>?_)
 refine QZ 0 rfl ?_
 go_frame
 refine QT 1 rfl (by intro w0 hSw;have x0:=QK hSw x0;go_simp;try with_reducible rfl) ?_
 go_frame
 refine QZ 2 rfl ?_
 go_frame
 refine QZ 3 rfl ?_
 go_frame
 refine QZ 4 rfl ?_
 go_frame
 refine QT 5 rfl (by intro w0 hSw;have x0:=QK hSw x0;go_simp;try with_reducible rfl) ?_
 go_frame
 refine QZ 6 rfl ?_
 go_frame
 refine QR 7 rfl (fun K hK=>?_)
 rw[if_pos (by rfl)]
 go_simp
 go_at_call 251
 refine(HLen.out _ (ai _)).mono ?_
 rintro e2 w2 ⟨rfl,g2⟩
 have HG2:Hid (W1.grownBy w2 none):=ae (ai _) g2
 clear g2
 refine hK.out _ _ (HG2.out) (fun hHeld2=>?_)
 clear hK K
 (try go_frame)
 refine QZ 8 rfl ?_
 go_frame
 refine QZ 9 rfl ?_
 go_frame
 refine QZ 10 rfl ?_
 go_frame
 refine QZ 11 rfl ?_
 go_frame
 refine QT 12 rfl (by intro w0 hSw;have x1:=QK hSw x1;go_simp;try with_reducible rfl) ?_
 go_frame
 refine QR 13 rfl (fun K hK=>?_)
 rw[if_pos (by rfl)]
 go_simp
 go_at_call 252
 refine(HPl _).mono ?_
 rintro e3 w3 ⟨rfl,h3⟩
 obtain rfl:w2=w3:=h3.symm
 refine hK.out _ _ (HG2.out) (fun hHeld2=>?_)
 clear hK K
 (try go_frame)
 refine QZ 14 rfl ?_
 go_frame
 refine QZ 15 rfl ?_
 go_frame
 refine QN 16 rfl ?_
 go_frame
 refine QN 17 rfl ?_
 go_frame
 refine QN 18 rfl ?_
 go_frame
 refine QZ 19 rfl ?_
 go_frame
 refine QZ 20 rfl ?_
 go_frame
 refine QN 21 rfl ?_
 go_frame
 refine QN 22 rfl ?_
 go_frame
 refine QN 23 rfl ?_
 go_frame
 refine QZ 24 rfl ?_
 go_frame
 refine QZ 25 rfl ?_
 go_frame
 refine QD ?_
 go_wp2_with fail
 go_ret
 exact⟨rfl,ae HG1.out HG2.out⟩
theorem Cl (bv:Value) (t:Th) (n:Int) (w:World) (h1:decide (1≤t.card)=true) (h2:decide (t.card≤n)=true) (h3:fE t.owner=true) (h4:decide (1≤t.place)=false) (HL:∀ X,w.grownBy X none→Calls Tryz.prog 251 #[bv] X fun e w'=>e=.returned (.int .i64 n)∧X.grownBy w' none):Calls Tryz.prog 190 #[bv,thv t] w fun e w'=>e=.returned (.bool false)∧w.grownBy w' none:=by
 obtain⟨W1,hW1⟩:=Qe (w.alloc (.cells #[.int .i64 t.card,.int .i64 t.owner,.int .u8 t.place,.int .i64 t.stamp,.int .i64 t.hurt,.int .i64 t.m0,.int .i64 t.m1,.int .i64 t.m2,.int .i64 t.m3,.int .i64 t.done,.bool t.fresh] 120))
 have HG1:Hid (w.grownBy W1 none):=by rw[hW1];exact QG
 have HB:Hid (ThB W1 w.heap.size t):=by rw[hW1];exact ak w _ _
 have HLen:Hid (∀ X,W1.grownBy X none→Calls Tryz.prog 251 #[bv] X fun e w'=>e=.returned (.int .i64 n)∧X.grownBy w' none):=fun X g=>HL X (ae HG1.out g)
 have HPl:=ci t.owner
 rw[h3] at HPl
 unfold thv
 clear HL h3
 go_enter Tryz.func190,Tryz.ntmps190
 go_upto_region 1 with fail
 rw[←hW1]
 clear hW1
 obtain⟨n0,h0⟩:=Qe (w.heap.size)
 simp only[←h0] at HB ⊢
 clear h0
 obtain⟨x0,x1,x2,x3,x4,x5,x6,x7,x8,x9,x10⟩:=cW HB.out
 refine wp_region_held_drew (S:=fun w'=>W1.grownBy w' none) (by kernel_rfl) (ai _) (fun hHeld=>?_)
 refine QZ 0 rfl ?_
 go_frame
 refine QT 1 rfl (by intro w0 hSw;have x0:=QK hSw x0;go_simp;try with_reducible rfl) ?_
 go_frame
 refine QZ 2 rfl ?_
 go_frame
 refine QZ 3 rfl ?_
 go_frame
 refine QZ 4 rfl ?_
 go_frame
 refine QT 5 rfl (by intro w0 hSw;have x0:=QK hSw x0;go_simp;try with_reducible rfl) ?_
 go_frame
 refine QZ 6 rfl ?_
 go_frame
 refine QR 7 rfl (fun K hK=>?_)
 rw[if_pos (by rfl)]
 go_simp
 go_at_call 251
 refine(HLen.out _ (ai _)).mono ?_
 rintro e2 w2 ⟨rfl,g2⟩
 have HG2:Hid (W1.grownBy w2 none):=ae (ai _) g2
 clear g2
 refine hK.out _ _ (HG2.out) (fun hHeld2=>?_)
 clear hK K
 (try go_frame)
 refine QZ 8 rfl ?_
 go_frame
 refine QZ 9 rfl ?_
 go_frame
 refine QZ 10 rfl ?_
 go_frame
 refine QZ 11 rfl ?_
 go_frame
 refine QT 12 rfl (by intro w0 hSw;have x1:=QK hSw x1;go_simp;try with_reducible rfl) ?_
 go_frame
 refine QR 13 rfl (fun K hK=>?_)
 rw[if_pos (by rfl)]
 go_simp
 go_at_call 252
 refine(HPl _).mono ?_
 rintro e3 w3 ⟨rfl,h3⟩
 obtain rfl:w2=w3:=h3.symm
 refine hK.out _ _ (HG2.out) (fun hHeld2=>?_)
 clear hK K
 (try go_frame)
 refine QZ 14 rfl ?_
 go_frame
 refine QZ 15 rfl ?_
 go_frame
 refine QZ 16 rfl ?_
 go_frame
 refine QT 17 rfl (by intro w0 hSw;have x2:=QK hSw x2;go_simp;try with_reducible rfl) ?_
 go_frame
 refine QZ 18 rfl ?_
 go_frame
 refine QZ 19 rfl ?_
 go_frame
 refine QZ 20 rfl ?_
 go_frame
 refine QN 21 rfl ?_
 go_frame
 refine QN 22 rfl ?_
 go_frame
 refine QN 23 rfl ?_
 go_frame
 refine QZ 24 rfl ?_
 go_frame
 refine QZ 25 rfl ?_
 go_frame
 refine QD ?_
 go_wp2_with fail
 go_ret
 exact⟨rfl,ae HG1.out HG2.out⟩
theorem A8 (bv:Value) (t:Th) (n:Int) (w:World) (h1:decide (1≤t.card)=true) (h2:decide (t.card≤n)=true) (h3:fE t.owner=true) (h4:decide (1≤t.place)=true) (h5:decide (t.place≤5)=false) (HL:∀ X,w.grownBy X none→Calls Tryz.prog 251 #[bv] X fun e w'=>e=.returned (.int .i64 n)∧X.grownBy w' none):Calls Tryz.prog 190 #[bv,thv t] w fun e w'=>e=.returned (.bool false)∧w.grownBy w' none:=by
 obtain⟨W1,hW1⟩:=Qe (w.alloc (.cells #[.int .i64 t.card,.int .i64 t.owner,.int .u8 t.place,.int .i64 t.stamp,.int .i64 t.hurt,.int .i64 t.m0,.int .i64 t.m1,.int .i64 t.m2,.int .i64 t.m3,.int .i64 t.done,.bool t.fresh] 120))
 have HG1:Hid (w.grownBy W1 none):=by rw[hW1];exact QG
 have HB:Hid (ThB W1 w.heap.size t):=by rw[hW1];exact ak w _ _
 have HLen:Hid (∀ X,W1.grownBy X none→Calls Tryz.prog 251 #[bv] X fun e w'=>e=.returned (.int .i64 n)∧X.grownBy w' none):=fun X g=>HL X (ae HG1.out g)
 have HPl:=ci t.owner
 rw[h3] at HPl
 unfold thv
 clear HL h3
 go_enter Tryz.func190,Tryz.ntmps190
 go_upto_region 1 with fail
 rw[←hW1]
 clear hW1
 obtain⟨n0,h0⟩:=Qe (w.heap.size)
 simp only[←h0] at HB ⊢
 clear h0
 obtain⟨x0,x1,x2,x3,x4,x5,x6,x7,x8,x9,x10⟩:=cW HB.out
 refine wp_region_held_drew (S:=fun w'=>W1.grownBy w' none) (by kernel_rfl) (ai _) (fun hHeld=>?_)
 refine QZ 0 rfl ?_
 go_frame
 refine QT 1 rfl (by intro w0 hSw;have x0:=QK hSw x0;go_simp;try with_reducible rfl) ?_
 go_frame
 refine QZ 2 rfl ?_
 go_frame
 refine QZ 3 rfl ?_
 go_frame
 refine QZ 4 rfl ?_
 go_frame
 refine QT 5 rfl (by intro w0 hSw;have x0:=QK hSw x0;go_simp;try with_reducible rfl) ?_
 go_frame
 refine QZ 6 rfl ?_
 go_frame
 refine QR 7 rfl (fun K hK=>?_)
 rw[if_pos (by rfl)]
 go_simp
 go_at_call 251
 refine(HLen.out _ (ai _)).mono ?_
 rintro e2 w2 ⟨rfl,g2⟩
 have HG2:Hid (W1.grownBy w2 none):=ae (ai _) g2
 clear g2
 refine hK.out _ _ (HG2.out) (fun hHeld2=>?_)
 clear hK K
 (try go_frame)
 refine QZ 8 rfl ?_
 go_frame
 refine QZ 9 rfl ?_
 go_frame
 refine QZ 10 rfl ?_
 go_frame
 refine QZ 11 rfl ?_
 go_frame
 refine QT 12 rfl (by intro w0 hSw;have x1:=QK hSw x1;go_simp;try with_reducible rfl) ?_
 go_frame
 refine QR 13 rfl (fun K hK=>?_)
 rw[if_pos (by rfl)]
 go_simp
 go_at_call 252
 refine(HPl _).mono ?_
 rintro e3 w3 ⟨rfl,h3⟩
 obtain rfl:w2=w3:=h3.symm
 refine hK.out _ _ (HG2.out) (fun hHeld2=>?_)
 clear hK K
 (try go_frame)
 refine QZ 14 rfl ?_
 go_frame
 refine QZ 15 rfl ?_
 go_frame
 refine QZ 16 rfl ?_
 go_frame
 refine QT 17 rfl (by intro w0 hSw;have x2:=QK hSw x2;go_simp;try with_reducible rfl) ?_
 go_frame
 refine QZ 18 rfl ?_
 go_frame
 refine QZ 19 rfl ?_
 go_frame
 refine QZ 20 rfl ?_
 go_frame
 refine QZ 21 rfl ?_
 go_frame
 refine QT 22 rfl (by intro w0 hSw;have x2:=QK hSw x2;go_simp;try with_reducible rfl) ?_
 go_frame
 refine QZ 23 rfl ?_
 go_frame
 refine QZ 24 rfl ?_
 go_frame
 refine QZ 25 rfl ?_
 go_frame
 refine QD ?_
 go_wp2_with fail
 go_ret
 exact⟨rfl,ae HG1.out HG2.out⟩
theorem AO (bv:Value) (t:Th) (n:Int) (w:World) (h1:decide (1≤t.card)=true) (h2:decide (t.card≤n)=true) (h3:fE t.owner=true) (h4:decide (1≤t.place)=true) (h5:decide (t.place≤5)=true) (HL:∀ X,w.grownBy X none→Calls Tryz.prog 251 #[bv] X fun e w'=>e=.returned (.int .i64 n)∧X.grownBy w' none):Calls Tryz.prog 190 #[bv,thv t] w fun e w'=>e=.returned (.bool true)∧w.grownBy w' none:=by
 obtain⟨W1,hW1⟩:=Qe (w.alloc (.cells #[.int .i64 t.card,.int .i64 t.owner,.int .u8 t.place,.int .i64 t.stamp,.int .i64 t.hurt,.int .i64 t.m0,.int .i64 t.m1,.int .i64 t.m2,.int .i64 t.m3,.int .i64 t.done,.bool t.fresh] 120))
 have HG1:Hid (w.grownBy W1 none):=by rw[hW1];exact QG
 have HB:Hid (ThB W1 w.heap.size t):=by rw[hW1];exact ak w _ _
 have HLen:Hid (∀ X,W1.grownBy X none→Calls Tryz.prog 251 #[bv] X fun e w'=>e=.returned (.int .i64 n)∧X.grownBy w' none):=fun X g=>HL X (ae HG1.out g)
 have HPl:=ci t.owner
 rw[h3] at HPl
 unfold thv
 clear HL h3
 go_enter Tryz.func190,Tryz.ntmps190
 go_upto_region 1 with fail
 rw[←hW1]
 clear hW1
 obtain⟨n0,h0⟩:=Qe (w.heap.size)
 simp only[←h0] at HB ⊢
 clear h0
 obtain⟨x0,x1,x2,x3,x4,x5,x6,x7,x8,x9,x10⟩:=cW HB.out
 refine wp_region_held_drew (S:=fun w'=>W1.grownBy w' none) (by kernel_rfl) (ai _) (fun hHeld=>?_)
 refine QZ 0 rfl ?_
 go_frame
 refine QT 1 rfl (by intro w0 hSw;have x0:=QK hSw x0;go_simp;try with_reducible rfl) ?_
 go_frame
 refine QZ 2 rfl ?_
 go_frame
 refine QZ 3 rfl ?_
 go_frame
 refine QZ 4 rfl ?_
 go_frame
 refine QT 5 rfl (by intro w0 hSw;have x0:=QK hSw x0;go_simp;try with_reducible rfl) ?_
 go_frame
 refine QZ 6 rfl ?_
 go_frame
 refine QR 7 rfl (fun K hK=>?_)
 rw[if_pos (by rfl)]
 go_simp
 go_at_call 251
 refine(HLen.out _ (ai _)).mono ?_
 rintro e2 w2 ⟨rfl,g2⟩
 have HG2:Hid (W1.grownBy w2 none):=ae (ai _) g2
 clear g2
 refine hK.out _ _ (HG2.out) (fun hHeld2=>?_)
 clear hK K
 (try go_frame)
 refine QZ 8 rfl ?_
 go_frame
 refine QZ 9 rfl ?_
 go_frame
 refine QZ 10 rfl ?_
 go_frame
 refine QZ 11 rfl ?_
 go_frame
 refine QT 12 rfl (by intro w0 hSw;have x1:=QK hSw x1;go_simp;try with_reducible rfl) ?_
 go_frame
 refine QR 13 rfl (fun K hK=>?_)
 rw[if_pos (by rfl)]
 go_simp
 go_at_call 252
 refine(HPl _).mono ?_
 rintro e3 w3 ⟨rfl,h3⟩
 obtain rfl:w2=w3:=h3.symm
 refine hK.out _ _ (HG2.out) (fun hHeld2=>?_)
 clear hK K
 (try go_frame)
 refine QZ 14 rfl ?_
 go_frame
 refine QZ 15 rfl ?_
 go_frame
 refine QZ 16 rfl ?_
 go_frame
 refine QT 17 rfl (by intro w0 hSw;have x2:=QK hSw x2;go_simp;try with_reducible rfl) ?_
 go_frame
 refine QZ 18 rfl ?_
 go_frame
 refine QZ 19 rfl ?_
 go_frame
 refine QZ 20 rfl ?_
 go_frame
 refine QZ 21 rfl ?_
 go_frame
 refine QT 22 rfl (by intro w0 hSw;have x2:=QK hSw x2;go_simp;try with_reducible rfl) ?_
 go_frame
 refine QZ 23 rfl ?_
 go_frame
 refine QZ 24 rfl ?_
 go_frame
 refine QZ 25 rfl ?_
 go_frame
 refine QD ?_
 go_wp2_with fail
 go_ret
 exact⟨rfl,ae HG1.out HG2.out⟩
theorem wH (bv:Value) (t:Th) (n:Int) (w:World) (HL:∀ X,w.grownBy X none→Calls Tryz.prog 251 #[bv] X fun e w'=>e=.returned (.int .i64 n)∧X.grownBy w' none):Calls Tryz.prog 190 #[bv,thv t] w fun e w'=>e=.returned (.bool (cC n t))∧w.grownBy w' none:=by
 unfold cC
 cases h1:decide (1≤t.card) with
 | false=>exact Ci bv t n w h1 HL
 | true =>
  cases h2:decide (t.card≤n) with
  | false=>exact Aj bv t n w h1 h2 HL
  | true =>
   cases h3:fE t.owner with
   | false=>exact Ck bv t n w h1 h2 h3 HL
   | true =>
    cases h4:decide (1≤t.place) with
    | false=>exact Cl bv t n w h1 h2 h3 h4 HL
    | true =>
     cases h5:decide (t.place≤5) with
     | false=>exact A8 bv t n w h1 h2 h3 h4 h5 HL
     | true=>exact AO bv t n w h1 h2 h3 h4 h5 HL
theorem zz (t:Th) (f:Fe) (w:World) (h1:decide (0<t.stamp)=false):Calls Tryz.prog 191 #[thv t,fev f] w fun e w'=>e=.returned (.bool false)∧w.grownBy w' none:=by
 obtain⟨W1,hW1⟩:=Qe ((w.alloc (.cells #[.int .i64 t.card,.int .i64 t.owner,.int .u8 t.place,.int .i64 t.stamp,.int .i64 t.hurt,.int .i64 t.m0,.int .i64 t.m1,.int .i64 t.m2,.int .i64 t.m3,.int .i64 t.done,.bool t.fresh] 120)).alloc (.cells #[.int .i64 f.ho,.int .u8 f.su,.int .u16 f.tr,.int .i64 f.po,.int .i64 f.he] 122))
 have HG1:Hid (w.grownBy W1 none):=by rw[hW1];exact al QG _
 have HB:Hid (ThB W1 w.heap.size t):=by rw[hW1];exact ag QG (ak w _ _) (by simp)
 have HF:Hid (FeB W1 (w.heap.size+1) f):=by rw[hW1];exact aO _ _ _ _
 have HPl:=ci f.ho
 have HCh:=fT f.tr
 unfold thv fev
 go_enter Tryz.func191,Tryz.ntmps191
 go_upto_region 1 with fail
 rw[←hW1]
 clear hW1
 obtain⟨n0,h0⟩:=Qe (w.heap.size)
 simp only[←h0] at HB HF ⊢
 obtain⟨n1,h1'⟩:∃ n1,n1=n0+1:=⟨_,rfl⟩
 simp only[←h1'] at HF ⊢
 clear h0 h1'
 obtain⟨x0,x1,x2,x3,x4,x5,x6,x7,x8,x9,x10⟩:=cW HB.out
 obtain⟨f0,f1,f2,f3,f4⟩:=jH HF.out
 go_wp2_with (first | (go_at_call 252;refine(HPl _).mono ?_;rintro e3 w3 ⟨rfl,h3⟩;obtain rfl:W1=w3:=h3.symm) | (go_at_call 175;refine(HCh _).mono ?_;rintro e3 w3 ⟨rfl,h3⟩;obtain rfl:W1=w3:=h3.symm) | fail)
 go_ret
 exact⟨rfl,HG1.out⟩
theorem yH (t:Th) (f:Fe) (w:World) (h1:decide (0<t.stamp)=true) (h2:fE f.ho=false):Calls Tryz.prog 191 #[thv t,fev f] w fun e w'=>e=.returned (.bool false)∧w.grownBy w' none:=by
 obtain⟨W1,hW1⟩:=Qe ((w.alloc (.cells #[.int .i64 t.card,.int .i64 t.owner,.int .u8 t.place,.int .i64 t.stamp,.int .i64 t.hurt,.int .i64 t.m0,.int .i64 t.m1,.int .i64 t.m2,.int .i64 t.m3,.int .i64 t.done,.bool t.fresh] 120)).alloc (.cells #[.int .i64 f.ho,.int .u8 f.su,.int .u16 f.tr,.int .i64 f.po,.int .i64 f.he] 122))
 have HG1:Hid (w.grownBy W1 none):=by rw[hW1];exact al QG _
 have HB:Hid (ThB W1 w.heap.size t):=by rw[hW1];exact ag QG (ak w _ _) (by simp)
 have HF:Hid (FeB W1 (w.heap.size+1) f):=by rw[hW1];exact aO _ _ _ _
 have HPl:=ci f.ho
 have HCh:=fT f.tr
 rw[h2] at HPl
 clear h2
 unfold thv fev
 go_enter Tryz.func191,Tryz.ntmps191
 go_upto_region 1 with fail
 rw[←hW1]
 clear hW1
 obtain⟨n0,h0⟩:=Qe (w.heap.size)
 simp only[←h0] at HB HF ⊢
 obtain⟨n1,h1'⟩:∃ n1,n1=n0+1:=⟨_,rfl⟩
 simp only[←h1'] at HF ⊢
 clear h0 h1'
 obtain⟨x0,x1,x2,x3,x4,x5,x6,x7,x8,x9,x10⟩:=cW HB.out
 obtain⟨f0,f1,f2,f3,f4⟩:=jH HF.out
 go_wp2_with (first | (go_at_call 252;refine(HPl _).mono ?_;rintro e3 w3 ⟨rfl,h3⟩;obtain rfl:W1=w3:=h3.symm) | (go_at_call 175;refine(HCh _).mono ?_;rintro e3 w3 ⟨rfl,h3⟩;obtain rfl:W1=w3:=h3.symm) | fail)
 go_ret
 exact⟨rfl,HG1.out⟩
theorem yB (t:Th) (f:Fe) (w:World) (h1:decide (0<t.stamp)=true) (h2:fE f.ho=true) (h3:bY f.tr=false):Calls Tryz.prog 191 #[thv t,fev f] w fun e w'=>e=.returned (.bool false)∧w.grownBy w' none:=by
 obtain⟨W1,hW1⟩:=Qe ((w.alloc (.cells #[.int .i64 t.card,.int .i64 t.owner,.int .u8 t.place,.int .i64 t.stamp,.int .i64 t.hurt,.int .i64 t.m0,.int .i64 t.m1,.int .i64 t.m2,.int .i64 t.m3,.int .i64 t.done,.bool t.fresh] 120)).alloc (.cells #[.int .i64 f.ho,.int .u8 f.su,.int .u16 f.tr,.int .i64 f.po,.int .i64 f.he] 122))
 have HG1:Hid (w.grownBy W1 none):=by rw[hW1];exact al QG _
 have HB:Hid (ThB W1 w.heap.size t):=by rw[hW1];exact ag QG (ak w _ _) (by simp)
 have HF:Hid (FeB W1 (w.heap.size+1) f):=by rw[hW1];exact aO _ _ _ _
 have HPl:=ci f.ho
 have HCh:=fT f.tr
 rw[h2] at HPl
 clear h2
 rw[h3] at HCh
 clear h3
 unfold thv fev
 go_enter Tryz.func191,Tryz.ntmps191
 go_upto_region 1 with fail
 rw[←hW1]
 clear hW1
 obtain⟨n0,h0⟩:=Qe (w.heap.size)
 simp only[←h0] at HB HF ⊢
 obtain⟨n1,h1'⟩:∃ n1,n1=n0+1:=⟨_,rfl⟩
 simp only[←h1'] at HF ⊢
 clear h0 h1'
 obtain⟨x0,x1,x2,x3,x4,x5,x6,x7,x8,x9,x10⟩:=cW HB.out
 obtain⟨f0,f1,f2,f3,f4⟩:=jH HF.out
 go_wp2_with (first | (go_at_call 252;refine(HPl _).mono ?_;rintro e3 w3 ⟨rfl,h3⟩;obtain rfl:W1=w3:=h3.symm) | (go_at_call 175;refine(HCh _).mono ?_;rintro e3 w3 ⟨rfl,h3⟩;obtain rfl:W1=w3:=h3.symm) | fail)
 go_ret
 exact⟨rfl,HG1.out⟩
theorem zH (t:Th) (f:Fe) (w:World) (h1:decide (0<t.stamp)=true) (h2:fE f.ho=true) (h3:bY f.tr=true):Calls Tryz.prog 191 #[thv t,fev f] w fun e w'=>e=.returned (.bool true)∧w.grownBy w' none:=by
 obtain⟨W1,hW1⟩:=Qe ((w.alloc (.cells #[.int .i64 t.card,.int .i64 t.owner,.int .u8 t.place,.int .i64 t.stamp,.int .i64 t.hurt,.int .i64 t.m0,.int .i64 t.m1,.int .i64 t.m2,.int .i64 t.m3,.int .i64 t.done,.bool t.fresh] 120)).alloc (.cells #[.int .i64 f.ho,.int .u8 f.su,.int .u16 f.tr,.int .i64 f.po,.int .i64 f.he] 122))
 have HG1:Hid (w.grownBy W1 none):=by rw[hW1];exact al QG _
 have HB:Hid (ThB W1 w.heap.size t):=by rw[hW1];exact ag QG (ak w _ _) (by simp)
 have HF:Hid (FeB W1 (w.heap.size+1) f):=by rw[hW1];exact aO _ _ _ _
 have HPl:=ci f.ho
 have HCh:=fT f.tr
 rw[h2] at HPl
 clear h2
 rw[h3] at HCh
 clear h3
 unfold thv fev
 go_enter Tryz.func191,Tryz.ntmps191
 go_upto_region 1 with fail
 rw[←hW1]
 clear hW1
 obtain⟨n0,h0⟩:=Qe (w.heap.size)
 simp only[←h0] at HB HF ⊢
 obtain⟨n1,h1'⟩:∃ n1,n1=n0+1:=⟨_,rfl⟩
 simp only[←h1'] at HF ⊢
 clear h0 h1'
 obtain⟨x0,x1,x2,x3,x4,x5,x6,x7,x8,x9,x10⟩:=cW HB.out
 obtain⟨f0,f1,f2,f3,f4⟩:=jH HF.out
 go_wp2_with (first | (go_at_call 252;refine(HPl _).mono ?_;rintro e3 w3 ⟨rfl,h3⟩;obtain rfl:W1=w3:=h3.symm) | (go_at_call 175;refine(HCh _).mono ?_;rintro e3 w3 ⟨rfl,h3⟩;obtain rfl:W1=w3:=h3.symm) | fail)
 go_ret
 exact⟨rfl,HG1.out⟩
theorem tH (t:Th) (f:Fe) (w:World):Calls Tryz.prog 191 #[thv t,fev f] w fun e w'=>e=.returned (.bool (bi t f))∧w.grownBy w' none:=by
 unfold bi
 cases h1:decide (0<t.stamp) with
 | false=>exact zz t f w h1
 | true =>
  cases h2:fE f.ho with
  | false=>exact yH t f w h1 h2
  | true =>
   cases h3:bY f.tr with
   | false=>exact yB t f w h1 h2 h3
   | true=>exact zH t f w h1 h2 h3
def bg (p:Pl) (n:Nat):Int:=if 2048<n then 3 else if p.shut=true then 0 else 2
theorem oZ (ok:Nat→Prop) (b:Nat) (es:List Ent) (p:Pl) (q:Option Addr) (n c:Nat) (w:World) (B:cG ok w b es p):Calls Tryz.prog 129 #[.pointer (some ⟨b,0,none⟩),.slice q n c] w fun e w'=>e=.returned (.int .i64 (bg p n))∧w.grownBy w' none:=by
 have HA:=Af ok b es p 0 w B
 unfold gh at HA
 have hx:¬mV p es 0:=fun h=>by have:=h.2.1;omega
 rw[mB hx,qE hx] at HA
 unfold cv Hd.none at HA
 have HS:Hid (∀ X,w.grownBy X none→Calls Tryz.prog 57 #[.pointer (some ⟨b,0,none⟩)] X fun e w'=>e=.returned (.bool p.shut)∧w'=X):=fun X g=>jD b es.length p X (B.keep g).lies.flags
 obtain⟨r,hr⟩:=Qe (bg p n)
 have HR:Hid (r=bg p n):=hr
 rw[←hr]
 clear B hx hr
 go_enter Tryz.func129,Tryz.ntmps129
 go_wp2_with fail
 refine HA.mono ?_
 rintro e w2 ⟨u,rfl,o2,g2⟩
 obtain⟨a2,k2,rfl⟩:=o2.at.form
 have HG2:Hid (w.grownBy w2 none):=g2
 clear HA o2 g2
 by_cases h1:2048<n
 ·have HE:Hid (r=3):=by show r=3;rw[HR.out];exact if_pos h1
  have hn:(2048:Int)<(n:Int):=by omega
  clear h1
  go_wp2_with fail
  go_ret
  exact⟨jr HE.out.symm,al HG2.out _⟩
 ·have hn:decide ((2048:Int)<(n:Int))=false:=Qx (by omega)
  cases hp:p.shut with
  | true =>
   have HE:Hid (r=0):=by show r=0;rw[HR.out];unfold bg;rw[if_neg h1,if_pos hp]
   rw[hp] at HS
   clear h1
   go_wp2_with (go_at_call 57;refine(HS.out _ (al HG2.out _)).mono ?_;rintro e3 w3 ⟨rfl,rfl⟩)
   go_ret
   exact⟨jr HE.out.symm,al HG2.out _⟩
  | false =>
   have HE:Hid (r=2):=by show r=2;rw[HR.out];unfold bg;rw[if_neg h1,if_neg (by rw[hp];decide)]
   rw[hp] at HS
   clear h1
   go_wp2_with (go_at_call 57;refine(HS.out _ (al HG2.out _)).mono ?_;rintro e3 w3 ⟨rfl,rfl⟩)
   go_ret
   exact⟨jr HE.out.symm,al HG2.out _⟩
theorem sN (v:Value) (q:Option Addr) (n c:Nat) (w:World) (B:kI w v):Calls Tryz.prog 129 #[v,.slice q n c] w fun e w'=>e=.returned (.int .i64 1)∧w.grownBy w' none:=by
 have HA:=AQ v 0 w B
 unfold cv Hd.none at HA
 clear B
 go_enter Tryz.func129,Tryz.ntmps129
 go_wp2_with fail
 refine HA.mono ?_
 rintro e w2 ⟨rfl,g2⟩
 have HG2:Hid (w.grownBy w2 none):=g2
 clear HA g2
 go_wp2_with fail
 go_ret
 exact⟨rfl,al HG2.out _⟩
end Go.Proofs.YtjmepebbcnhalaaGreat
