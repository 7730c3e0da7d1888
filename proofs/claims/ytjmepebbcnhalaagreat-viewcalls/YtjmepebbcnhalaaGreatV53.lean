import Derived.Test.YtjmepebbcnhalaaGreatV52
namespace Go.Proofs.YtjmepebbcnhalaaGreat
set_option maxRecDepth 100000
set_option maxHeartbeats 4000000
open Go.RowKit Go.Shelf
variable {W w wr:World} {g b base c:Nat} {ok:Nat→Prop} {es:List Ent} {p:Pl} {vt:Value} {ts:List Th} {bp:Option Addr}
def vxU (j:Nat) (vE vB vC:Value):List Ent:=if j=0 then [] else if j=1 then [⟨exC,vC,[fW]⟩] else if j=2 then [⟨vxB,vB,[iZ]⟩,⟨exC,vC,[fW]⟩] else dU vE vB vC
theorem Fa {S:Nat} (h:W.heap[g]?=some (.cells (thR.cs vxT).toArray 120 (0,0))) (hS:S≤g):thR.Own 120 W S (.slice (some ⟨g,0,none⟩) 4 4) vxT:=⟨rfl,Or.inr ⟨g,4,_,rfl,hS,h,Qj _,(by unfold maxLen;decide),rfl,rfl⟩⟩
theorem rr (w:World):Calls Tryz.prog 86 #[] w fun e w'=>∃ vE vB vC S g,e=.returned (.tuple #[.pointer (some ⟨w.heap.size,0,none⟩),.slice (some ⟨g,0,none⟩) 4 4,.bool true])∧VxR w w' w.heap.size S g vE vB vC:=by
 have hmf:∀ (fn:Fn) (first cap:Array Value) (w:World),(Instr.makeFunc fn first cap).run Tryz.prog w=.ok (.func fn first cap) w:=fun _ _ _ _=>rfl
 have HN:=Fs (jE w.heap.size) w
 obtain⟨b,hb⟩:=Qe (w.heap.size)
 have HBb:Hid (b=w.heap.size):=hb
 rw[←hb] at HN ⊢
 clear hb
 go_enter Tryz.func86,Tryz.ntmps86
 go_wp2_with fail
 refine HN.mono ?_
 rintro e w1 ⟨rfl,B1,g1,hz1⟩
 obtain⟨V1,hV1⟩:=Qe (w1.alloc (.cells #[.pointer (some ⟨b,0,none⟩)] 32))
 have HG1:Hid (w.grownBy V1 none):=by rw[hV1];exact al g1 _
 have HB1:Hid (cG (jE b) V1 b [] ch):=by rw[hV1];exact B1.keep QG
 have HX1:Hid (BpB V1 w1.heap.size b∧b<w1.heap.size):=⟨by rw[hV1];exact ak _ _ _,B1.lt⟩
 clear HN B1 g1 hz1
 go_upto_region 2 with fail
 rw[←hV1]
 clear hV1
 obtain⟨n3,hn3⟩:=Qe (w1.heap.size)
 rw[←hn3] at HX1 ⊢
 clear hn3
 obtain⟨a1,ha1⟩:=Qe (V1.heap.size)
 obtain⟨V2,hV2⟩:=Qe (((V1.alloc (.cells #[.int .u8 5,.int .u8 15,.int .u8 9,.int .i64 1,.int .u8 6,.int .u8 0,.int .u8 0,.string ⟨#[]⟩] 62)).alloc (.cells #[.int .u8 5,.int .u8 11,.int .u8 5,.int .i64 0,.int .u8 6,.int .u8 0,.int .u8 0,.string ⟨#[]⟩] 62)).alloc (.cells #[.string ⟨#[99,114,111,119,110]⟩,.int .u8 6,.int .u8 3,.int .i64 0,.int .i64 0,.int .i64 0,.int .u16 0,.bool false,.slice (some ⟨V1.heap.size,0,none⟩) 1 1,.string ⟨#[98,114,117,115,104]⟩,.int .u8 5,.int .u8 3,.int .i64 0,.int .i64 0,.int .i64 0,.int .u16 0,.bool false,.slice (some ⟨(V1.heap.size+1),0,none⟩) 1 1,.string ⟨#[98,101,97,114]⟩,.int .u8 2,.int .u8 1,.int .i64 0,.int .i64 2,.int .i64 2,.int .u16 0,.bool false,.slice none 0 0] 111))
 have HV2:Hid (VxS w V2 b n3 V1.heap.size (V1.heap.size+1) (V1.heap.size+1+1) [] ch):=by
  have g:V1.grownBy V2 none:=by rw[hV2];exact al (al QG _) _
  have hb1:=HX1.out.2
  have hb2:=HB1.out.lt
  refine⟨HB1.out.keep g,ag g HX1.out.1 (by simp),?_,?_,?_,ae HG1.out g,by have:=HBb.out;omega,hb1,hb2,by omega,by omega⟩
  ·rw[hV2];exact ag QG (jh _ _ _ _ _) (by simp)
  ·rw[hV2];exact ag QG (aO _ _ _ _) (by simp)
  ·rw[hV2];exact bR _ _ _ _ _
 go_upto_region 3 with fail
 rw[←hV2]
 clear hV2 HB1 HX1 HG1 ha1 a1
 obtain⟨a1,ha1⟩:=Qe (V1.heap.size)
 obtain⟨a2,ha2⟩:=Qe (a1+1)
 obtain⟨nc,hnc⟩:=Qe (a2+1)
 simp only[←ha1,←ha2,←hnc] at HV2 ⊢
 clear ha1 ha2 hnc
 go_wp2_with fail
 go_loopw [5] (fun i wr=>∃ (j:Nat) (vE vB vC:Value),j≤3∧i=.int .i64 (j:Int)∧Hid (VxS w wr b n3 a1 a2 nc (vxU j vE vB vC) ch)) (fun i _=>3 - (intOf i).toNat)
 case atStart=>exact⟨0,.bool false,.bool false,.bool false,by decide,rfl,HV2.out⟩
 case round =>
  clear HV2
  obtain⟨j,vE,vB,vC,hj,rfl,HS⟩:=hrel
  obtain⟨U,hU⟩:=Qe (wr)
  subst hU
  have hj':j=0∨j=1∨j=2∨j=3:=by omega
  clear hj
  rcases hj' with rfl | rfl | rfl | rfl
  ·have HC:Hid (∀ X,U.grownBy X none→Calls Tryz.prog 50 #[.pointer (some ⟨b,0,none⟩),.agg #[.string ⟨#[99,114,111,119,110]⟩,.int .u8 6,.int .u8 3,.int .i64 0,.int .i64 0,.int .i64 0,.int .u16 0,.bool false,.slice (some ⟨a1,0,none⟩) 1 1]] X fun e w'=>∃ u,e=.returned (.int .i64 0)∧cG (jE b) w' b (ins [] ⟨exC,u,[fW]⟩) ch∧X.grownBy w' (some b)):=fun X g=>by
    have h:=xk (jE b) b [] ch exC (.slice (some ⟨a1,0,none⟩) 1 1) [fW] X (HS.out.bk.keep g) (Nat.lt_irrefl _) (fun q hq=>by show b<q;have:=(HS.out.bk.keep g).lt;omega) (BZ (ag g HS.out.q1 (by simp))) (by unfold ba;simp)
    rw[EY] at h
    exact h
   have hnb:some n3≠some b:=fun q=>by cases q;exact Nat.lt_irrefl _ HS.out.lie.2.1
   have hcb:some nc≠some b:=fun q=>by cases q;exact Nat.lt_irrefl _ HS.out.lie.2.2.2.2
   have x0:U.cell? ⟨n3,0,none⟩=some (.pointer (some ⟨b,0,none⟩)):=(aa HS.out.bx 0).trans rfl
   have c0:U.cell? ⟨nc,0,none⟩=some (.string ⟨#[99,114,111,119,110]⟩):=(aa HS.out.cd 0).trans rfl
   have c1:U.cell? ⟨nc,1,none⟩=some (.int .u8 6):=(aa HS.out.cd 1).trans rfl
   have c2:U.cell? ⟨nc,2,none⟩=some (.int .u8 3):=(aa HS.out.cd 2).trans rfl
   have c3:U.cell? ⟨nc,3,none⟩=some (.int .i64 0):=(aa HS.out.cd 3).trans rfl
   have c4:U.cell? ⟨nc,4,none⟩=some (.int .i64 0):=(aa HS.out.cd 4).trans rfl
   have c5:U.cell? ⟨nc,5,none⟩=some (.int .i64 0):=(aa HS.out.cd 5).trans rfl
   have c6:U.cell? ⟨nc,6,none⟩=some (.int .u16 0):=(aa HS.out.cd 6).trans rfl
   have c7:U.cell? ⟨nc,7,none⟩=some (.bool false):=(aa HS.out.cd 7).trans rfl
   have c8:U.cell? ⟨nc,8,none⟩=some (.slice (some ⟨a1,0,none⟩) 1 1):=(aa HS.out.cd 8).trans rfl
   go_upto_region 6 with fail
   refine wp_region_held_drew (S:=fun w'=>U.grownBy w' (some b)) (by kernel_rfl) (aX _ _) (fun hHeld=>?_)
   refine QT 0 rfl (by intro w0 hSw;have x0:=hSw.cell x0 hnb;go_simp;try with_reducible rfl) ?_
   go_frame
   refine QZ 1 rfl ?_
   go_frame
   refine QZ 2 rfl ?_
   go_frame
   refine QZ 3 rfl ?_
   go_frame
   refine QT 4 rfl (by intro w0 hSw;have c0:=hSw.cell c0 hcb;have c1:=hSw.cell c1 hcb;have c2:=hSw.cell c2 hcb;have c3:=hSw.cell c3 hcb;have c4:=hSw.cell c4 hcb;have c5:=hSw.cell c5 hcb;have c6:=hSw.cell c6 hcb;have c7:=hSw.cell c7 hcb;have c8:=hSw.cell c8 hcb;go_simp;try with_reducible rfl) ?_
   go_frame
   refine QR 5 rfl (fun K hK=>?_)
   go_simp
   go_at_call 50
   refine(HC.out _ (ai _)).mono ?_
   rintro e5 w5 ⟨u,rfl,B5,g5⟩
   have HS5:Hid (VxS w w5 b n3 a1 a2 nc (vxU 1 vE vB u) ch):=(HS.out.keep (ai _)).turn g5 (by rw[EM] at B5;exact B5)
   have HG5:Hid (U.grownBy w5 (some b)):=ae (aX _ _) g5
   clear B5 g5 HC HS hnb hcb x0 c0 c1 c2 c3 c4 c5 c6 c7 c8
   refine hK.out _ _ (HG5.out) (fun hHeld2=>?_)
   clear hK K
   (try go_frame)
   refine QZ 6 rfl ?_
   go_frame
   refine QD ?_
   clear hHeld hHeld2
   go_wp2_with fail
   go_roundw
   case rel=>exact⟨1,vE,vB,u,by decide,rfl,HS5⟩
   case measure=>decide
  ·have HC:Hid (∀ X,U.grownBy X none→Calls Tryz.prog 50 #[.pointer (some ⟨b,0,none⟩),.agg #[.string ⟨#[98,114,117,115,104]⟩,.int .u8 5,.int .u8 3,.int .i64 0,.int .i64 0,.int .i64 0,.int .u16 0,.bool false,.slice (some ⟨a2,0,none⟩) 1 1]] X fun e w'=>∃ u,e=.returned (.int .i64 0)∧cG (jE b) w' b (ins [⟨exC,vC,[fW]⟩] ⟨vxB,u,[iZ]⟩) ch∧X.grownBy w' (some b)):=fun X g=>by
    have h:=xk (jE b) b [⟨exC,vC,[fW]⟩] ch vxB (.slice (some ⟨a2,0,none⟩) 1 1) [iZ] X (HS.out.bk.keep g) (Nat.lt_irrefl _) (fun q hq=>by show b<q;have:=(HS.out.bk.keep g).lt;omega) (BZ (ag g HS.out.q2 (by simp))) (by unfold ba;simp)
    rw[Fb] at h
    exact h
   have hnb:some n3≠some b:=fun q=>by cases q;exact Nat.lt_irrefl _ HS.out.lie.2.1
   have hcb:some nc≠some b:=fun q=>by cases q;exact Nat.lt_irrefl _ HS.out.lie.2.2.2.2
   have x0:U.cell? ⟨n3,0,none⟩=some (.pointer (some ⟨b,0,none⟩)):=(aa HS.out.bx 0).trans rfl
   have c0:U.cell? ⟨nc,9,none⟩=some (.string ⟨#[98,114,117,115,104]⟩):=(aa HS.out.cd 9).trans rfl
   have c1:U.cell? ⟨nc,10,none⟩=some (.int .u8 5):=(aa HS.out.cd 10).trans rfl
   have c2:U.cell? ⟨nc,11,none⟩=some (.int .u8 3):=(aa HS.out.cd 11).trans rfl
   have c3:U.cell? ⟨nc,12,none⟩=some (.int .i64 0):=(aa HS.out.cd 12).trans rfl
   have c4:U.cell? ⟨nc,13,none⟩=some (.int .i64 0):=(aa HS.out.cd 13).trans rfl
   have c5:U.cell? ⟨nc,14,none⟩=some (.int .i64 0):=(aa HS.out.cd 14).trans rfl
   have c6:U.cell? ⟨nc,15,none⟩=some (.int .u16 0):=(aa HS.out.cd 15).trans rfl
   have c7:U.cell? ⟨nc,16,none⟩=some (.bool false):=(aa HS.out.cd 16).trans rfl
   have c8:U.cell? ⟨nc,17,none⟩=some (.slice (some ⟨a2,0,none⟩) 1 1):=(aa HS.out.cd 17).trans rfl
   go_upto_region 6 with fail
   refine wp_region_held_drew (S:=fun w'=>U.grownBy w' (some b)) (by kernel_rfl) (aX _ _) (fun hHeld=>?_)
   refine QT 0 rfl (by intro w0 hSw;have x0:=hSw.cell x0 hnb;go_simp;try with_reducible rfl) ?_
   go_frame
   refine QZ 1 rfl ?_
   go_frame
   refine QZ 2 rfl ?_
   go_frame
   refine QZ 3 rfl ?_
   go_frame
   refine QT 4 rfl (by intro w0 hSw;have c0:=hSw.cell c0 hcb;have c1:=hSw.cell c1 hcb;have c2:=hSw.cell c2 hcb;have c3:=hSw.cell c3 hcb;have c4:=hSw.cell c4 hcb;have c5:=hSw.cell c5 hcb;have c6:=hSw.cell c6 hcb;have c7:=hSw.cell c7 hcb;have c8:=hSw.cell c8 hcb;go_simp;try with_reducible rfl) ?_
   go_frame
   refine QR 5 rfl (fun K hK=>?_)
   go_simp
   go_at_call 50
   refine(HC.out _ (ai _)).mono ?_
   rintro e5 w5 ⟨u,rfl,B5,g5⟩
   have HS5:Hid (VxS w w5 b n3 a1 a2 nc (vxU 2 vE u vC) ch):=(HS.out.keep (ai _)).turn g5 (by rw[EK] at B5;exact B5)
   have HG5:Hid (U.grownBy w5 (some b)):=ae (aX _ _) g5
   clear B5 g5 HC HS hnb hcb x0 c0 c1 c2 c3 c4 c5 c6 c7 c8
   refine hK.out _ _ (HG5.out) (fun hHeld2=>?_)
   clear hK K
   (try go_frame)
   refine QZ 6 rfl ?_
   go_frame
   refine QD ?_
   clear hHeld hHeld2
   go_wp2_with fail
   go_roundw
   case rel=>exact⟨2,vE,u,vC,by decide,rfl,HS5⟩
   case measure=>decide
  ·have HC:Hid (∀ X,U.grownBy X none→Calls Tryz.prog 50 #[.pointer (some ⟨b,0,none⟩),.agg #[.string ⟨#[98,101,97,114]⟩,.int .u8 2,.int .u8 1,.int .i64 0,.int .i64 2,.int .i64 2,.int .u16 0,.bool false,.slice none 0 0]] X fun e w'=>∃ u,e=.returned (.int .i64 0)∧cG (jE b) w' b (ins [⟨vxB,vB,[iZ]⟩,⟨exC,vC,[fW]⟩] ⟨exE,u,[]⟩) ch∧X.grownBy w' (some b)):=fun X g=>by
    have h:=xk (jE b) b [⟨vxB,vB,[iZ]⟩,⟨exC,vC,[fW]⟩] ch exE (.slice none 0 0) [] X (HS.out.bk.keep g) (Nat.lt_irrefl _) (fun q hq=>by show b<q;have:=(HS.out.bk.keep g).lt;omega) (Or.inl ⟨rfl,rfl⟩) (by unfold ba;simp)
    rw[Ey] at h
    exact h
   have hnb:some n3≠some b:=fun q=>by cases q;exact Nat.lt_irrefl _ HS.out.lie.2.1
   have hcb:some nc≠some b:=fun q=>by cases q;exact Nat.lt_irrefl _ HS.out.lie.2.2.2.2
   have x0:U.cell? ⟨n3,0,none⟩=some (.pointer (some ⟨b,0,none⟩)):=(aa HS.out.bx 0).trans rfl
   have c0:U.cell? ⟨nc,18,none⟩=some (.string ⟨#[98,101,97,114]⟩):=(aa HS.out.cd 18).trans rfl
   have c1:U.cell? ⟨nc,19,none⟩=some (.int .u8 2):=(aa HS.out.cd 19).trans rfl
   have c2:U.cell? ⟨nc,20,none⟩=some (.int .u8 1):=(aa HS.out.cd 20).trans rfl
   have c3:U.cell? ⟨nc,21,none⟩=some (.int .i64 0):=(aa HS.out.cd 21).trans rfl
   have c4:U.cell? ⟨nc,22,none⟩=some (.int .i64 2):=(aa HS.out.cd 22).trans rfl
   have c5:U.cell? ⟨nc,23,none⟩=some (.int .i64 2):=(aa HS.out.cd 23).trans rfl
   have c6:U.cell? ⟨nc,24,none⟩=some (.int .u16 0):=(aa HS.out.cd 24).trans rfl
   have c7:U.cell? ⟨nc,25,none⟩=some (.bool false):=(aa HS.out.cd 25).trans rfl
   have c8:U.cell? ⟨nc,26,none⟩=some (.slice none 0 0):=(aa HS.out.cd 26).trans rfl
   go_upto_region 6 with fail
   refine wp_region_held_drew (S:=fun w'=>U.grownBy w' (some b)) (by kernel_rfl) (aX _ _) (fun hHeld=>?_)
   refine QT 0 rfl (by intro w0 hSw;have x0:=hSw.cell x0 hnb;go_simp;try with_reducible rfl) ?_
   go_frame
   refine QZ 1 rfl ?_
   go_frame
   refine QZ 2 rfl ?_
   go_frame
   refine QZ 3 rfl ?_
   go_frame
   refine QT 4 rfl (by intro w0 hSw;have c0:=hSw.cell c0 hcb;have c1:=hSw.cell c1 hcb;have c2:=hSw.cell c2 hcb;have c3:=hSw.cell c3 hcb;have c4:=hSw.cell c4 hcb;have c5:=hSw.cell c5 hcb;have c6:=hSw.cell c6 hcb;have c7:=hSw.cell c7 hcb;have c8:=hSw.cell c8 hcb;go_simp;try with_reducible rfl) ?_
   go_frame
   refine QR 5 rfl (fun K hK=>?_)
   go_simp
   go_at_call 50
   refine(HC.out _ (ai _)).mono ?_
   rintro e5 w5 ⟨u,rfl,B5,g5⟩
   have HS5:Hid (VxS w w5 b n3 a1 a2 nc (vxU 3 u vB vC) ch):=(HS.out.keep (ai _)).turn g5 (by rw[Er] at B5;exact B5)
   have HG5:Hid (U.grownBy w5 (some b)):=ae (aX _ _) g5
   clear B5 g5 HC HS hnb hcb x0 c0 c1 c2 c3 c4 c5 c6 c7 c8
   refine hK.out _ _ (HG5.out) (fun hHeld2=>?_)
   clear hK K
   (try go_frame)
   refine QZ 6 rfl ?_
   go_frame
   refine QD ?_
   clear hHeld hHeld2
   go_wp2_with fail
   go_roundw
   case rel=>exact⟨3,u,vB,vC,by decide,rfl,HS5⟩
   case measure=>decide
  ·have HM1:=BY (jE b) b (dU vE vB vC) ch tgU U HS.out.bk (Nat.lt_irrefl _)
   rw[Ef,Fi] at HM1
   unfold mv tgU at HM1
   have x0:U.cell? ⟨n3,0,none⟩=some (.pointer (some ⟨b,0,none⟩)):=(aa HS.out.bx 0).trans rfl
   go_wp2_with fail
   refine HM1.mono ?_
   rintro e2 w2 ⟨rfl,B2,g2⟩
   have HS2:Hid (VxS w w2 b n3 a1 a2 nc (dU vE vB vC) tY):=HS.out.turn g2 B2
   have HM2:=BY (jE b) b (dU vE vB vC) tY tgD w2 HS2.out.bk (Nat.lt_irrefl _)
   rw[xA,Bh] at HM2
   unfold mv tgD at HM2
   clear HM1 B2 g2 HS x0
   have x0:w2.cell? ⟨n3,0,none⟩=some (.pointer (some ⟨b,0,none⟩)):=(aa HS2.out.bx 0).trans rfl
   go_wp2_with fail
   refine HM2.mono ?_
   rintro e3 w3 ⟨rfl,B3,g3⟩
   have HS3:Hid (VxS w w3 b n3 a1 a2 nc (dU vE vB vC) yR):=HS2.out.turn g3 B3
   have HE:=Ek (jE b) b (dU vE vB vC) yR w3 HS3.out.bk (Nat.lt_irrefl _)
   rw[xq,Cy] at HE
   clear HM2 B3 g3 HS2 x0
   have x0:w3.cell? ⟨n3,0,none⟩=some (.pointer (some ⟨b,0,none⟩)):=(aa HS3.out.bx 0).trans rfl
   go_wp2_with fail
   refine HE.mono ?_
   rintro e4 w4 ⟨rfl,B4,g4⟩
   have HS4:Hid (VxS w w4 b n3 a1 a2 nc (dU vE vB vC) vxP):=HS3.out.turn g4 B4
   clear HE B4 g4 HS3 x0
   obtain⟨V5,hV5⟩:=Qe (w4.alloc (.cells #[.func (.func 151) #[] #[.pointer (some ⟨n3,0,none⟩)]] 202))
   obtain⟨S,hS⟩:=Qe (w4.heap.size)
   have g5:w4.grownBy V5 none:=by rw[hV5];exact QG
   have HV5:Hid (cG (fun k=>jE b k∧k<S) V5 b (dU vE vB vC) vxP∧BpB V5 n3 b∧FnB V5 S n3∧w.grownBy V5 none):=⟨by rw[hS];exact HS4.out.bk.oldL.keep g5,ag g5 HS4.out.bx (by simp),by rw[hS,hV5];exact ak _ _ _,ae HS4.out.gr g5⟩
   have HSb:Hid (S<V5.heap.size∧b<S∧w.heap.size≤b):=⟨aZ HV5.out.2.2.1,by rw[hS];exact HS4.out.bk.lt,HS4.out.lie.1⟩
   go_upto_region 12 with fail
   rw[←hV5,←hS]
   clear hV5 hS g5 HS4
   have HOn:Hid (∀ X s ow st y,V5.grownBy X none→ll vxP.shut (pos (aY (dU vE vB vC)) s)=y→Calls Tryz.prog 153 #[.string s,.int .i64 ow,.int .i64 st,.pointer (some ⟨S,0,none⟩)] X fun e w'=>e=.returned (.agg #[.int .i64 y,.int .i64 ow,.int .u8 4,.int .i64 st,.int .i64 0,.int .i64 0,.int .i64 0,.int .i64 0,.int .i64 0,.int .i64 0,.bool false])∧X.grownBy w' none):=fun X s ow st y g h=>CV b n3 S (dU vE vB vC) vxP _ s ow st y X (HV5.out.1.keep g) (ag g HV5.out.2.1 (by simp)) (ag g HV5.out.2.2.1 (by simp)) h
   have x0:V5.cell? ⟨n3,0,none⟩=some (.pointer (some ⟨b,0,none⟩)):=(aa HV5.out.2.1 0).trans rfl
   refine wp_region_held_drew (S:=fun w'=>V5.grownBy w' none) (by kernel_rfl) (ai _) (fun hHeld=>?_)
   refine QT 0 rfl (by intro w0 hSw;have x0:=QK hSw x0;go_simp;try with_reducible rfl) ?_
   go_frame
   refine QZ 1 rfl ?_
   go_frame
   refine QZ 3 rfl ?_
   go_frame
   refine QZ 5 rfl ?_
   go_frame
   refine QZ 7 rfl ?_
   go_frame
   refine QR 2 rfl (fun K hK=>?_)
   go_simp
   go_at_call 153
   refine(HOn.out _ exC.nm 0 1 3 (ai _) (xM vE vB vC).1.1).mono ?_
   rintro e20 y0 ⟨rfl,g20⟩
   have HH0:Hid (V5.grownBy y0 none):=ae (ai _) g20
   clear g20
   refine hK.out _ _ (HH0.out) (fun hHeld2=>?_)
   clear hK K
   (try go_frame)
   refine QR 4 rfl (fun K hK=>?_)
   go_simp
   go_at_call 153
   refine(HOn.out _ vxB.nm 0 2 2 HH0.out (xM vE vB vC).1.2).mono ?_
   rintro e21 y1 ⟨rfl,g21⟩
   have HH1:Hid (V5.grownBy y1 none):=ae HH0.out g21
   clear g21
   refine hK.out _ _ (HH1.out) (fun hHeld2=>?_)
   clear hK K
   (try go_frame)
   refine QR 6 rfl (fun K hK=>?_)
   go_simp
   go_at_call 153
   refine(HOn.out _ exE.nm 0 3 1 HH1.out (xM vE vB vC).2).mono ?_
   rintro e22 y2 ⟨rfl,g22⟩
   have HH2:Hid (V5.grownBy y2 none):=ae HH1.out g22
   clear g22
   refine hK.out _ _ (HH2.out) (fun hHeld2=>?_)
   clear hK K
   (try go_frame)
   refine QR 8 rfl (fun K hK=>?_)
   go_simp
   go_at_call 153
   refine(HOn.out _ exE.nm 1 4 1 HH2.out (xM vE vB vC).2).mono ?_
   rintro e23 y3 ⟨rfl,g23⟩
   have HH3:Hid (V5.grownBy y3 none):=ae HH2.out g23
   clear g23
   refine hK.out _ _ (HH3.out) (fun hHeld2=>?_)
   clear hK K
   (try go_frame)
   obtain⟨Z,hZ⟩:=Qe (y3.alloc (.cells #[.int .i64 3,.int .i64 0,.int .u8 4,.int .i64 1,.int .i64 0,.int .i64 0,.int .i64 0,.int .i64 0,.int .i64 0,.int .i64 0,.bool false,.int .i64 2,.int .i64 0,.int .u8 4,.int .i64 2,.int .i64 0,.int .i64 0,.int .i64 0,.int .i64 0,.int .i64 0,.int .i64 0,.bool false,.int .i64 1,.int .i64 0,.int .u8 4,.int .i64 3,.int .i64 0,.int .i64 0,.int .i64 0,.int .i64 0,.int .i64 0,.int .i64 0,.bool false,.int .i64 1,.int .i64 1,.int .u8 4,.int .i64 4,.int .i64 0,.int .i64 0,.int .i64 0,.int .i64 0,.int .i64 0,.int .i64 0,.bool false] 120))
   have HZg:Hid (V5.grownBy Z none):=by rw[hZ];exact al HH3.out _
   have HZb:Hid (Z.heap[y3.heap.size]?=some (.cells (thR.cs vxT).toArray 120 (0,0))):=by rw[hZ];exact ak _ _ _
   have HZs:Hid (S≤y3.heap.size):=Ql (Nat.le_of_lt HSb.out.1) HH3.out.size
   refine QZ 10 rfl ?_
   go_frame
   refine QR 9 rfl (fun K9 hK=>?_)
   go_simp
   rw[←hZ]
   refine hK.out _ _ (HZg.out) (fun hHeld3=>?_)
   clear hK K9
   (try go_frame)
   refine QZ 11 rfl ?_
   go_frame
   refine QZ 12 rfl ?_
   go_frame
   refine QD ?_
   clear hZ
   go_wp2_with fail
   refine bodyPost_ret (v:=.tuple #[.pointer (some ⟨b,0,none⟩),.slice (some ⟨y3.heap.size,0,none⟩) 4 4,.bool true]) (by simp[results,Tryz.results86,go_sem]) rfl ?_
   exact⟨vE,vB,vC,S,y3.heap.size,rfl,⟨HV5.out.1.keep HZg.out,Fa HZb.out HZs.out,ae HV5.out.2.2.2 HZg.out,HSb.out.2.2,HSb.out.2.1⟩⟩
def pfB (p:Pl) (es:List Ent) (t:Th):Fe:=ptF (atC p es t.card).1 (atX p es t.card) t
def okT (t:Th):Bool:=dI t.m0 t.m1 t.m2 t.m3
def mfB (p:Pl) (f:Fe) (t:Th):Fe:=if okT t then lw p f t.m0 t.m1 t.m2 t.m3 else Fe.none
def meB (t:Th):Int:=if okT t then 0 else 2
theorem VIn.of (B:cG ok w b es p) (A:thR.At w vt ts) (hc:∃ q c,vt=.slice q ts.length c∧ts.length≤c):VIn w (.pointer (some ⟨b,0,none⟩)) vt (bg p ts.length) (es.length:Int) (atC p es) ts (pfB p es) (mfB p) meB:=by
 refine⟨fun X vf fs g F hf=>LIn.of (B.keep g) (A.keep g) F hf,fun X t g=>⟨_,lX _ t _ _ _ X fun Y q=>og ok b es p t Y ((B.keep g).keep q)⟩,fun X f t g=>?_,fun h=>?_,A,hc⟩
 ·unfold mfB meB okT
  cases ho:dI t.m0 t.m1 t.m2 t.m3 with
  | true=>exact tZ ok b es p f t.m0 t.m1 t.m2 t.m3 X (B.keep g) ho
  | false=>exact zc ok b es p f t.m0 t.m1 t.m2 t.m3 X (B.keep g) ho
 ·unfold bg at h
  split at h
  ·cases h
  ·omega
theorem VIn.no (B:kI w (.pointer bp)) (A:thR.At w vt ts) (hc:∃ q c,vt=.slice q ts.length c∧ts.length≤c):VIn w (.pointer bp) vt 1 0 (fun _=>(Hd.none,[])) ts (fun t=>ptF Hd.none 1 t) (fun _ _=>Fe.none) (fun _=>1) :=
 ⟨fun X vf fs g F _=>LIn.no (B.keep g) (A.keep g) F,fun X t g=>⟨_,lX _ t Hd.none [] 1 X fun Y q=>uu _ t Y ((B.keep g).keep q)⟩,fun X f t g=>vK _ f _ _ _ _ X (B.keep g),fun h=>absurd h (by decide),A,hc⟩
def tL:List Rw:=[⟨1,1,exC,[fW]⟩,⟨2,2,vxB,[iZ]⟩,⟨3,3,exE,[]⟩,⟨4,4,exE,[]⟩]
def y9:List Fe:=[⟨0,6,0,0,0⟩,⟨0,5,0,0,0⟩,⟨0,2,0,2,2⟩,⟨1,2,0,2,2⟩]
def Dt:List Fe:=[⟨0,6,0,0,0⟩,⟨0,5,0,0,0⟩,⟨0,6,0,3,3⟩,⟨1,2,0,2,2⟩]
theorem vW (vE vB vC:Value):aR (pfB vxP (dU vE vB vC)) vxT=y9:=by kernel_rfl
theorem CY:sortR tL=tL:=List.mergeSort_of_pairwise (by unfold tL;simp)
theorem Ca (vE vB vC:Value):bw 3 (atC vxP (dU vE vB vC)) vxT y9=some tL:=by
 unfold bw
 rw[if_pos (show vxT.length=y9.length from rfl),show dz 3 (atC vxP (dU vE vB vC)) (vxT.zip y9) 0 []=some tL from by kernel_rfl]
 simp only[CY]
 rfl
theorem Ed (vE vB vC:Value):vkE (bg vxP vxT.length) ((dU vE vB vC).length:Int) (atC vxP (dU vE vB vC)) vxT (aR (pfB vxP (dU vE vB vC)) (vxT.take 2048)) meB=0:=by
 rw[List.take_of_length_le (by decide),vW,show bg vxP vxT.length=0 from by kernel_rfl,show (((dU vE vB vC).length:Nat):Int)=3 from rfl,mE (ri (Ca vE vB vC) (by decide))]
 kernel_rfl
theorem Ez (vE vB vC:Value):Tab ((dU vE vB vC).length:Int) (atC vxP (dU vE vB vC)) vxT (aR (pfB vxP (dU vE vB vC)) vxT) tL:=by
 rw[vW]
 exact Tab.of (Ca vE vB vC)
theorem FG (vE vB vC:Value) {k:Int} (hk:0≤k∧k≤6):vBh (bg vxP vxT.length) ((dU vE vB vC).length:Int) (atC vxP (dU vE vB vC)) vxT (pfB vxP (dU vE vB vC)) (mfB vxP) meB k=bhL tL (mfB vxP) vxT y9 k:=by
 rw[uG (Ed vE vB vC) hk (Ez vE vB vC),vW]
theorem FM:bhL tL (mfB vxP) vxT y9 6=Dt:=by kernel_rfl
theorem VxR.inn {S:Nat} {vE vB vC:Value} (h:VxR w wr b S g vE vB vC):VIn wr (.pointer (some ⟨b,0,none⟩)) (.slice (some ⟨g,0,none⟩) 4 4) (bg vxP vxT.length) ((dU vE vB vC).length:Int) (atC vxP (dU vE vB vC)) vxT (pfB vxP (dU vE vB vC)) (mfB vxP) meB:=VIn.of h.bk (az.Own.at h.th) ⟨_,_,rfl,Qj _⟩
theorem Ec {p:Nat} {L:List Fe} (o:aQ w base (.slice (some ⟨p,0,none⟩) 4 c) L) (i:Nat) {f:Fe} (hf:L[i]?=some f):w.rangeAt p (i*5) (fec f):=by
 have hi:i<L.length:=(Qh hf).1
 obtain⟨g,off,cap,e,R⟩:=dA (az.Own.at o) hi
 obtain⟨g',c',e',_⟩:=cH o (by omega)
 injection e with e1 e2 e3
 injection e1 with e1
 injection e1 with a1 a2
 rw[←a1,←a2,Nat.zero_add,show L[i]=f from (Qh hf).2] at R
 exact R
theorem CX (a0 a1 a2 a3 a4:Int) (w:World):(binOp .eql 122 (.agg #[.int .i64 a0,.int .u8 a1,.int .u16 a2,.int .i64 a3,.int .i64 a4]) (.agg #[.int .i64 a0,.int .u8 a1,.int .u16 a2,.int .i64 a3,.int .i64 a4])).run Tryz.prog w=.ok (.bool true) w:=by
 rw[run_eql_struct,mc];rfl
theorem vX (w:World):Calls Tryz.prog 27 #[] w fun e w'=>e=.returned (.bool true)∧w.grownBy w' none:=by
 have C1:=rr w
 have hnq:=CX
 have hgq:=ry
 go_enter Tryz.func27,Tryz.ntmps27
 go_wp2_with fail
 refine C1.mono ?_
 rintro e1 w1 ⟨vE,vB,vC,S,g,rfl,h1⟩
 have C2:=xw _ _ _ _ _ _ _ _ _ w1 h1.inn
 have HG1:Hid (w.grownBy w1 none):=h1.gr
 obtain⟨b,hb⟩:=Qe (w.heap.size)
 rw[←hb] at C2 ⊢
 have C3:Calls Tryz.prog 29 #[.pointer (some ⟨b,0,none⟩),.slice (some ⟨g,0,none⟩) 4 4] w1 fun e w'=>∃ p c,e=.returned (.tuple #[.slice (some ⟨p,0,none⟩) 4 c,.int .i64 0])∧w1.grownBy w' none∧aQ w' w1.heap.size (.slice (some ⟨p,0,none⟩) 4 c) Dt:=by
  refine C2.mono ?_
  rintro e w' ⟨v,rfl,g',o⟩
  rw[FG vE vB vC (by decide),FM] at o
  obtain⟨p,c,e1,_⟩:=cH o (by decide)
  subst e1
  exact⟨p,c,by rw[Ed];rfl,g',o⟩
 clear C1 C2 h1 hb
 go_wp2_with fail
 refine C3.mono ?_
 rintro e2 w2 ⟨p,c,rfl,g2,o2⟩
 have HG2:Hid (w.grownBy w2 none):=ae HG1.out g2
 have r2:=Ec o2 2 (show Dt[2]?=some ⟨0,6,0,3,3⟩ from rfl)
 have r3:=Ec o2 3 (show Dt[3]?=some ⟨1,2,0,2,2⟩ from rfl)
 obtain⟨a0,a1,a2,a3,a4⟩:=bm r2
 obtain⟨b0,b1,b2,b3,b4⟩:=bm r3
 simp only[Nat.reduceMul,Nat.reduceAdd] at a0 a1 a2 a3 a4 b0 b1 b2 b3 b4
 clear C3 g2 o2 r2 r3
 go_wp2_with fail
 go_ret
 exact⟨rfl,HG2.out⟩
def fB (c m t:Nat):Bool:=decide (70<c) || (decide (40<m) || (decide (60<t) && decide (t≤2048)))
theorem zi (pc pm pt:Option Addr) (c m t kc km kt:Nat) (op:Bool) (w:World):Calls Tryz.prog 28 #[.agg #[.slice pc c kc,.slice pm m km,.bool op],.slice pt t kt] w fun e w'=>e=.returned (.bool (fB c m t))∧w.grownBy w' none:=by
 obtain⟨W,hW⟩:=Qe (w.alloc (.cells #[.slice pc c kc,.slice pm m km,.bool op] 25))
 have HG:Hid (w.grownBy W none):=by rw[hW];exact QG
 have H0:Hid (W.heap[w.heap.size]?=some (.cells #[.slice pc c kc,.slice pm m km,.bool op] 25 (0,0))):=by rw[hW];exact ak _ _ _
 go_enter Tryz.func28,Tryz.ntmps28
 go_upto_region 1 with fail
 rw[←hW]
 obtain⟨b0,hb0⟩:=Qe (w.heap.size)
 rw[←hb0] at H0 ⊢
 clear hW hb0
 have f0:W.cell? ⟨b0,0,none⟩=some (.slice pc c kc):=(aa H0.out 0).trans rfl
 have f1:W.cell? ⟨b0,1,none⟩=some (.slice pm m km):=(aa H0.out 1).trans rfl
 by_cases h1:70<c
 ·have e1:decide ((70:Int)<(c:Int))=true:=Qy (by omega)
  have HE:Hid (fB c m t=true):=by show _=_;unfold fB;rw[Qy h1];rfl
  go_wp2_with fail
  go_ret
  exact⟨by rw[HE.out];rfl,HG.out⟩
 ·have e1:decide ((70:Int)<(c:Int))=false:=Qx (by omega)
  by_cases h2:40<m
  ·have e2:decide ((40:Int)<(m:Int))=true:=Qy (by omega)
   have HE:Hid (fB c m t=true):=by show _=_;unfold fB;rw[Qy h2,Bool.true_or,Bool.or_true]
   go_wp2_with fail
   go_ret
   exact⟨by rw[HE.out];rfl,HG.out⟩
  ·have e2:decide ((40:Int)<(m:Int))=false:=Qx (by omega)
   by_cases h3:60<t
   ·have e3:decide ((60:Int)<(t:Int))=true:=Qy (by omega)
    by_cases h4:t≤2048
    ·have e4:decide ((t:Int)≤2048)=true:=Qy (by omega)
     have HE:Hid (fB c m t=true):=by show _=_;unfold fB;rw[Qy h3,Qy h4,Bool.true_and,Bool.or_true,Bool.or_true]
     go_wp2_with fail
     go_ret
     exact⟨by rw[HE.out];rfl,HG.out⟩
    ·have e4:decide ((t:Int)≤2048)=false:=Qx (by omega)
     have HE:Hid (fB c m t=false):=by show _=_;unfold fB;rw[Qx h1,Qx h2,Qx h4];simp
     go_wp2_with fail
     go_ret
     exact⟨by rw[HE.out];rfl,HG.out⟩
   ·have e3:decide ((60:Int)<(t:Int))=false:=Qx (by omega)
    have HE:Hid (fB c m t=false):=by show _=_;unfold fB;rw[Qx h1,Qx h2,Qx h3];rfl
    go_wp2_with fail
    go_ret
    exact⟨by rw[HE.out];rfl,HG.out⟩
end Go.Proofs.YtjmepebbcnhalaaGreat
