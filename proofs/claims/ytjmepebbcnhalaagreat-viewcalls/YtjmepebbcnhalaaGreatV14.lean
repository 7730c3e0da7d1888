import Derived.Test.YtjmepebbcnhalaaGreatV13
namespace Go.Proofs.YtjmepebbcnhalaaGreat
set_option maxRecDepth 100000
set_option maxHeartbeats 4000000
open Go.RowKit
variable {c g:Nat} {w:World} {f:Fe}
theorem cM {a b:Bool} (h:a=b):Ending.returned (.bool a)=Ending.returned (.bool b):=by rw[h]
theorem jB {a b:World} (h:a.grownBy b none) (hc:a.heap.size≤c) (v0 v1 v2 v3 v4 v5 v6:Value):a.grownBy (((((((b.setCell ⟨c,0,none⟩ v0).setCell ⟨c,1,none⟩ v1).setCell ⟨c,2,none⟩ v2).setCell ⟨c,3,none⟩ v3).setCell ⟨c,4,none⟩ v4).setCell ⟨c,5,none⟩ v5).setCell ⟨c,6,none⟩ v6) none:=ar h (((((((aj _ _ _ _).trans (aj _ _ _ _)).trans (aj _ _ _ _)).trans (aj _ _ _ _)).trans (aj _ _ _ _)).trans (aj _ _ _ _)).trans (aj _ _ _ _)) (fun y e=>by cases e;exact hc)
theorem ka (a b:Int):(a == b)=decide (a=b):=by rw[Bool.eq_iff_iff];simp
theorem DT (a b:Int):(a != b)=!decide (a=b):=by rw[Bool.eq_iff_iff];simp
theorem Dn (a b:Nat):((a:Int) == (b:Int))=decide (a=b):=by rw[Bool.eq_iff_iff];simp;omega
def cdv (f:Fe) (u o:Bool):Value:=.agg #[.int .i64 f.ho,.int .u8 f.su,.int .u16 f.tr,.int .i64 f.po,.int .i64 f.he,.bool u,.bool o]
def CdB (w:World) (g:Nat) (f:Fe) (u o:Bool):Prop:=w.heap[g]?=some (.cells #[.int .i64 f.ho,.int .u8 f.su,.int .u16 f.tr,.int .i64 f.po,.int .i64 f.he,.bool u,.bool o] 302 (0,0))
theorem vv {u o:Bool} (h:CdB w g f u o):w.cell? ⟨g,0,none⟩=some (.int .i64 f.ho)∧w.cell? ⟨g,1,none⟩=some (.int .u8 f.su)∧w.cell? ⟨g,2,none⟩=some (.int .u16 f.tr)∧w.cell? ⟨g,3,none⟩=some (.int .i64 f.po)∧w.cell? ⟨g,4,none⟩=some (.int .i64 f.he)∧w.cell? ⟨g,5,none⟩=some (.bool u)∧w.cell? ⟨g,6,none⟩=some (.bool o) :=
 ⟨(aa h 0).trans rfl,(aa h 1).trans rfl,(aa h 2).trans rfl,(aa h 3).trans rfl,(aa h 4).trans rfl,(aa h 5).trans rfl,(aa h 6).trans rfl⟩
def PqB (w:World) (n:Nat) (p:Pt):Prop:=w.heap[n]?=some (.cells #[.int .u8 p.wn,.int .u8 p.vb,.int .u8 p.wm,.int .i64 p.ct,.int .u8 p.su,.int .u8 p.tr,.int .u8 p.mr,.string p.nm] 62 (0,0))
theorem Ae {p:Pt} (h:PqB w g p):w.cell? ⟨g,0,none⟩=some (.int .u8 p.wn)∧w.cell? ⟨g,1,none⟩=some (.int .u8 p.vb)∧w.cell? ⟨g,2,none⟩=some (.int .u8 p.wm)∧w.cell? ⟨g,3,none⟩=some (.int .i64 p.ct)∧w.cell? ⟨g,4,none⟩=some (.int .u8 p.su)∧w.cell? ⟨g,5,none⟩=some (.int .u8 p.tr)∧w.cell? ⟨g,6,none⟩=some (.int .u8 p.mr)∧w.cell? ⟨g,7,none⟩=some (.string p.nm) :=
 ⟨(aa h 0).trans rfl,(aa h 1).trans rfl,(aa h 2).trans rfl,(aa h 3).trans rfl,(aa h 4).trans rfl,(aa h 5).trans rfl,(aa h 6).trans rfl,(aa h 7).trans rfl⟩
theorem vT (p:Pt) (ho:Int) (f:Fe) (u o:Bool) (w:World):Calls Tryz.prog 272 #[pv p,.int .i64 ho,cdv f u o] w fun e w'=>e=.returned (.bool (gO p o f ho))∧w.grownBy w' none:=by
 obtain⟨W1,hW1⟩:=Qe ((w.alloc (.cells #[.int .u8 p.wn,.int .u8 p.vb,.int .u8 p.wm,.int .i64 p.ct,.int .u8 p.su,.int .u8 p.tr,.int .u8 p.mr,.string p.nm] 62)).alloc (.cells #[.int .i64 f.ho,.int .u8 f.su,.int .u16 f.tr,.int .i64 f.po,.int .i64 f.he,.bool u,.bool o] 302))
 have HG1:Hid (w.grownBy W1 none):=by rw[hW1];exact al QG _
 have HP:Hid (PqB W1 w.heap.size p):=by rw[hW1];exact ag QG (ak w _ _) (by simp)
 have HC:Hid (CdB W1 (w.heap.size+1) f u o):=by rw[hW1];exact aO _ _ _ _
 unfold pv cdv
 go_enter Tryz.func272,Tryz.ntmps272
 go_upto_region 1 with fail
 rw[←hW1]
 clear hW1
 obtain⟨n0,h0⟩:=Qe (w.heap.size)
 simp only[←h0] at HP HC ⊢
 obtain⟨n1,h1⟩:=Qe (n0+1)
 simp only[←h1] at HC ⊢
 clear h0 h1
 obtain⟨p0,p1,u4,p3,u6,u7,p6,p7⟩:=Ae HP.out
 obtain⟨q0,q1,q2,q3,q4,q5,q6⟩:=vv HC.out
 clear p0 p1 p3 p6 p7 q3 q4 q5
 by_cases d5:p.wm=5
 ·have HY:Hid (gO p o f ho=(f.ho == ho)):=by show _=_;unfold gO;rw[if_pos d5];rw[ka]
  rw[d5] at u4
  clear d5
  go_wp2
  go_ret
  exact⟨cM HY.out.symm,HG1.out⟩
 by_cases d8:p.wm=8
 ·cases ho1:(f.ho == ho) with
  | true =>
   have hb:f.ho=ho:=by simpa using ho1
   have HY:Hid (gO p o f ho=(!o)):=by show _=_;unfold gO;rw[if_neg d5,if_pos d8];simp[hb]
   rw[d8] at u4
   clear hb d5 d8
   go_wp2
   go_ret
   exact⟨cM HY.out.symm,HG1.out⟩
  | false =>
   have hb:¬f.ho=ho:=by simpa using ho1
   have HY:Hid (gO p o f ho=false):=by show _=_;unfold gO;rw[if_neg d5,if_pos d8];simp[hb]
   rw[d8] at u4
   clear hb d5 d8
   go_wp2
   go_ret
   exact⟨cM HY.out.symm,HG1.out⟩
 by_cases d6:p.wm=6
 ·have HY:Hid (gO p o f ho=(f.ho != ho)):=by show _=_;unfold gO;rw[if_neg d5,if_neg d8,if_pos d6];rw[DT]
  rw[d6] at u4
  clear d5 d8 d6
  go_wp2
  go_ret
  exact⟨cM HY.out.symm,HG1.out⟩
 by_cases d7:p.wm=7
 ·have HY:Hid (gO p o f ho=true):=by show _=_;unfold gO;rw[if_neg d5,if_neg d8,if_neg d6,if_pos d7]
  rw[d7] at u4
  clear d5 d8 d6 d7
  go_wp2
  go_ret
  exact⟨cM HY.out.symm,HG1.out⟩
 by_cases d9:p.wm=9
 ·have HY:Hid (gO p o f ho=(f.su == p.su)):=by show _=_;unfold gO;rw[if_neg d5,if_neg d8,if_neg d6,if_neg d7,if_pos d9];rw[ka]
  rw[d9] at u4
  clear d5 d8 d6 d7 d9
  go_wp2
  go_ret
  exact⟨cM HY.out.symm,HG1.out⟩
 by_cases d10:p.wm=10
 ·have HY:Hid (gO p o f ho=(kh f.tr p.tr)):=by show _=_;unfold gO;rw[if_neg d5,if_neg d8,if_neg d6,if_neg d7,if_neg d9,if_pos d10]
  rw[d10] at u4
  clear d5 d8 d6 d7 d9 d10
  go_wp2_with (go_at_call 212;refine(xL _ _ _).mono ?_;rintro e3 w3 ⟨rfl,rfl⟩)
  go_ret
  exact⟨cM HY.out.symm,HG1.out⟩
 have HY:Hid (gO p o f ho=false):=by show _=_;unfold gO;rw[if_neg d5,if_neg d8,if_neg d6,if_neg d7,if_neg d9,if_neg d10]
 have k5:(p.wm == 5)=false:=by simpa using d5
 have k8:(p.wm == 8)=false:=by simpa using d8
 have k6:(p.wm == 6)=false:=by simpa using d6
 have k7:(p.wm == 7)=false:=by simpa using d7
 have k9:(p.wm == 9)=false:=by simpa using d9
 have k10:(p.wm == 10)=false:=by simpa using d10
 clear d5 d8 d6 d7 d9 d10
 go_wp2
 go_ret
 exact⟨cM HY.out.symm,HG1.out⟩
theorem ut (p:Pt) (ho:Int) (f:Fe) (u o:Bool) (w:World):Calls Tryz.prog 236 #[pv p,.int .i64 ho,cdv f u o] w fun e w'=>e=.returned (.bool (fX p o u f ho))∧w.grownBy w' none:=by
 have hU:=fun W=>vT p ho f u o W
 obtain⟨W1,hW1⟩:=Qe ((w.alloc (.cells #[.int .u8 p.wn,.int .u8 p.vb,.int .u8 p.wm,.int .i64 p.ct,.int .u8 p.su,.int .u8 p.tr,.int .u8 p.mr,.string p.nm] 62)).alloc (.cells #[.int .i64 f.ho,.int .u8 f.su,.int .u16 f.tr,.int .i64 f.po,.int .i64 f.he,.bool u,.bool o] 302))
 have HG1:Hid (w.grownBy W1 none):=by rw[hW1];exact al QG _
 have HP:Hid (PqB W1 w.heap.size p):=by rw[hW1];exact ag QG (ak w _ _) (by simp)
 have HC:Hid (CdB W1 (w.heap.size+1) f u o):=by rw[hW1];exact aO _ _ _ _
 unfold pv cdv
 go_enter Tryz.func236,Tryz.ntmps236
 go_upto_region 1 with fail
 rw[←hW1]
 clear hW1
 obtain⟨n0,h0⟩:=Qe (w.heap.size)
 simp only[←h0] at HP HC ⊢
 obtain⟨n1,h1⟩:=Qe (n0+1)
 simp only[←h1] at HC ⊢
 clear h0 h1
 unfold pv cdv at hU
 obtain⟨p0,p1,u4,p3,u6,u7,p6,p7⟩:=Ae HP.out
 obtain⟨q0,q1,q2,q3,q4,q5,q6⟩:=vv HC.out
 by_cases d4:p.wm=4
 ·have HY:Hid (fX p o u f ho=o):=by show _=_;unfold fX;rw[if_pos d4]
  rw[d4] at u4
  clear d4 hU
  go_wp2
  go_ret
  exact⟨cM HY.out.symm,HG1.out⟩
 have k4:(p.wm == 4)=false:=by simpa using d4
 cases u with
 | false =>
  have HY:Hid (fX p o false f ho=false):=by show _=_;unfold fX;rw[if_neg d4,if_pos rfl]
  clear d4 hU
  go_wp2
  go_ret
  exact⟨cM HY.out.symm,HG1.out⟩
 | true =>
  have HY:Hid (fX p o true f ho=gO p o f ho):=uz d4
  clear d4
  go_wp2_with (go_at_call 272;refine(hU _).mono ?_;rintro e3 w3 ⟨rfl,g3⟩;have HG3:Hid (W1.grownBy w3 none):=g3)
  go_ret
  exact⟨cM HY.out.symm,ae HG1.out HG3.out⟩
theorem si (vr vf:Value) (X:List Rv) (F:List Fe) (e:Se) (i:Nat) (w:World) (T:dX w vr vf X F) (hi:i<X.length) (hr:e.ro<X.length):Calls Tryz.prog 214 #[tbv vr vf,sev e,.int .i64 (i:Int)] w fun e' w'=>e'=.returned (.bool (dq (rws X) F e i))∧w.grownBy w' none:=by
 obtain⟨gr,rof,rcap,rfl,Rr⟩:=T.row hi
 obtain⟨gf,fof,fcap,e1,Rf⟩:=T.fe hi
 obtain⟨gf',fof',fcap',e2,Rh⟩:=T.fe hr
 rw[e1] at e2
 cases e2
 subst e1
 have hl:F.length=X.length:=T.len
 have h16:X.length≤16:=T.few
 have HEx:Hid (dq (rws X) F e i=fX e.s.wh ((i:Int) == (e.ro:Int)) (X[i].r.h.kd == 1) (F.getD i Fe.none) (F.getD e.ro Fe.none).ho):=by show dq _ _ _ _=_;unfold dq;rw[fI hi,zd,Dn,ka]
 obtain⟨f,hf⟩:=Qe (F.getD i Fe.none)
 obtain⟨ho,hho⟩:=Qe ((F.getD e.ro Fe.none).ho)
 obtain⟨x,hx⟩:=Qe (X[i])
 rw[←hf,←hho,←hx] at HEx
 rw[←hf] at Rf
 rw[←hx] at Rr
 obtain⟨W1,hW1⟩:=Qe ((w.alloc (.cells #[.slice (some ⟨gr,rof,none⟩) X.length rcap,.slice (some ⟨gf,fof,none⟩) F.length fcap] 125)).alloc (.cells #[.int .i64 e.s.th,.int .i64 e.s.pl,.int .u8 e.s.wh.wn,.int .u8 e.s.wh.vb,.int .u8 e.s.wh.wm,.int .i64 e.s.wh.ct,.int .u8 e.s.wh.su,.int .u8 e.s.wh.tr,.int .u8 e.s.wh.mr,.string e.s.wh.nm,.int .i64 (e.ro:Int)] 131))
 have HG1:Hid (w.grownBy W1 none):=by rw[hW1];exact al QG _
 have HB:Hid (TbB W1 w.heap.size (.slice (some ⟨gr,rof,none⟩) X.length rcap) (.slice (some ⟨gf,fof,none⟩) F.length fcap)):=by rw[hW1];exact ag QG (ak w _ _) (by simp)
 have HS:Hid (SeB W1 (w.heap.size+1) e):=by rw[hW1];exact aO _ _ _ _
 have HRr:Hid (W1.rangeAt gr (rof+i*11) (rvc x)):=aS Rr HG1.out
 have HRf:Hid (W1.rangeAt gf (fof+i*5) (fec f)):=aS Rf HG1.out
 have HRh:Hid (W1.rangeAt gf (fof+e.ro*5) (fec (F.getD e.ro Fe.none))):=aS Rh HG1.out
 have hi':(i:Int)<X.length:=by omega
 have hr':(e.ro:Int)<X.length:=by omega
 have hif:(i:Int)<F.length:=by omega
 have hrf:(e.ro:Int)<F.length:=by omega
 have Hho:Hid (ho=(F.getD e.ro Fe.none).ho):=hho
 have hU:=fun W=>ut e.s.wh ho f (x.r.h.kd == 1) ((i:Int) == (e.ro:Int)) W
 unfold pv cdv at hU
 unfold tbv sev
 clear T Rr Rf Rh hf hho hx hi hr hl h16
 go_enter Tryz.func214,Tryz.ntmps214
 go_upto_region 1 with fail
 rw[←hW1]
 clear hW1
 obtain⟨n0,h0⟩:=Qe (w.heap.size)
 simp only[←h0] at HB HS ⊢
 obtain⟨n1,h1⟩:=Qe (n0+1)
 simp only[←h1] at HS ⊢
 clear h0 h1
 obtain⟨b0,b1⟩:=bP HB.out
 obtain⟨s0,s1,s2,s3,s4,s5,s6,s7,s8,s9,s10⟩:=fh HS.out
 obtain⟨r0,r1,r2,r3,r4,r5,r6,r7,r8,r9,r10⟩:=eM HRr.out
 obtain⟨f0,f1,f2,f3,f4⟩:=bm HRf.out
 have g0:=(bm HRh.out).1
 rw[←Hho.out] at g0
 clear r0 r1 r2 r3 r5 r6 r7 r8 r9 r10
 refine wp_region_held_drew (S:=fun w'=>W1.grownBy w' none) (by kernel_rfl) (ai _) (fun hHeld=>?_)
 refine QZ 0 rfl ?_
 go_frame
 refine QT 1 rfl (by intro w0 hSw;have b1:=QK hSw b1;go_simp;try with_reducible rfl) ?_
 go_frame
 refine QZ 2 rfl ?_
 go_frame
 refine QZ 3 rfl ?_
 go_frame
 refine QT 4 rfl (by intro w0 hSw;have f0:=QK hSw f0;have f1:=QK hSw f1;have f2:=QK hSw f2;have f3:=QK hSw f3;have f4:=QK hSw f4;go_simp;try with_reducible rfl) ?_
 go_frame
 refine QZ 5 rfl ?_
 go_frame
 refine QT 6 rfl (by intro w0 hSw;have b0:=QK hSw b0;go_simp;try with_reducible rfl) ?_
 go_frame
 refine QZ 7 rfl ?_
 go_frame
 refine QZ 8 rfl ?_
 go_frame
 refine QZ 9 rfl ?_
 go_frame
 refine QZ 10 rfl ?_
 go_frame
 refine QT 11 rfl (by intro w0 hSw;have r4:=QK hSw r4;go_simp;try with_reducible rfl) ?_
 go_frame
 refine QZ 12 rfl ?_
 go_frame
 refine QZ 13 rfl ?_
 go_frame
 refine QZ 14 rfl ?_
 go_frame
 refine QT 15 rfl (by intro w0 hSw;have s10:=QK hSw s10;go_simp;try with_reducible rfl) ?_
 go_frame
 refine QZ 16 rfl ?_
 go_frame
 refine QZ 17 rfl ?_
 go_frame
 refine QR 18 rfl (fun K9 hK=>?_)
 go_simp
 refine hK.out _ _ (ae (al (ay _ _) _) (ai _)) (fun hHeld3=>?_)
 clear hK K9
 (try go_frame)
 obtain⟨V1,hV1⟩:=Qe ((W1.alloc (.cells #[.int .i64 0,.int .u8 0,.int .u16 0,.int .i64 0,.int .i64 0,.bool false,.bool false] 302)).drew)
 rw[←hV1] at hHeld3 ⊢
 have HB1:Hid (V1.heap[W1.heap.size]?=some (.cells #[.int .i64 0,.int .u8 0,.int .u16 0,.int .i64 0,.int .i64 0,.bool false,.bool false] 302 (0,0))):=by rw[hV1];exact ak W1 _ _
 have HGV:Hid (W1.grownBy V1 none):=hHeld3
 obtain⟨n2,h2⟩:=Qe (W1.heap.size)
 have Hn2:Hid (W1.heap.size≤n2∧w.heap.size≤n2):=by have:=HG1.out.size;show _∧_;omega
 rw[←h2] at HB1 ⊢
 clear hV1 h2
 have z0:=QS (aa HB1.out 0) (.int .i64 0) rfl
 have z1:=QS (aa HB1.out 1) (.int .u8 0) rfl
 have z2:=QS (aa HB1.out 2) (.int .u16 0) rfl
 have z3:=QS (aa HB1.out 3) (.int .i64 0) rfl
 have z4:=QS (aa HB1.out 4) (.int .i64 0) rfl
 have z5:=QS (aa HB1.out 5) (.bool false) rfl
 have z6:=QS (aa HB1.out 6) (.bool false) rfl
 have zf:=fun i=>au HB1.out i
 refine QR 19 rfl (fun K9 hK=>?_)
 go_simp
 refine hK.out _ _ (jB HGV.out Hn2.out.1 _ _ _ _ _ _ _) (fun hHeld3=>?_)
 clear hK K9
 (try go_frame)
 refine QD ?_
 obtain⟨u,hu⟩:=Qe ((x.r.h.kd == 1))
 obtain⟨o,ho'⟩:∃ o,o=((i:Int) == (e.ro:Int)):=⟨_,rfl⟩
 rw[←hu,←ho'] at HEx
 simp only[←hu,←ho'] at hU ⊢
 clear hu ho'
 obtain⟨V,hV⟩:=Qe (((((((V1.setCell ⟨n2,0,none⟩ (.int .i64 f.ho)).setCell ⟨n2,1,none⟩ (.int .u8 f.su)).setCell ⟨n2,2,none⟩ (.int .u16 f.tr)).setCell ⟨n2,3,none⟩ (.int .i64 f.po)).setCell ⟨n2,4,none⟩ (.int .i64 f.he)).setCell ⟨n2,5,none⟩ (.bool u)).setCell ⟨n2,6,none⟩ (.bool o))
 rw[←hV]
 have HG:Hid (w.grownBy V none):=by rw[hV];exact ae HG1.out (jB HGV.out Hn2.out.1 _ _ _ _ _ _ _)
 have HG':W1.grownBy V none:=by rw[hV];exact jB HGV.out Hn2.out.1 _ _ _ _ _ _ _
 have HB2:Hid (CdB V n2 f u o):=by rw[hV];exact aC (aC (aC (aC (aC (aC (aC HB1.out 0 _) 1 _) 2 _) 3 _) 4 _) 5 _) 6 _
 have v2:=HG'.cell s2 (by simp)
 have v3:=HG'.cell s3 (by simp)
 have v4:=HG'.cell s4 (by simp)
 have v5:=HG'.cell s5 (by simp)
 have v6:=HG'.cell s6 (by simp)
 have v7:=HG'.cell s7 (by simp)
 have v8:=HG'.cell s8 (by simp)
 have v9:=HG'.cell s9 (by simp)
 have v10:=HG'.cell s10 (by simp)
 have y1:=HG'.cell b1 (by simp)
 have y0:=HG'.cell g0 (by simp)
 obtain⟨q0,q1,q2,q3,q4,q5,q6⟩:=vv HB2.out
 clear hV hHeld hHeld3 HG' s0 s1 s2 s3 s4 s5 s6 s7 s8 s9 s10 z0 z1 z2 z3 z4 z5 z6 zf f0 f1 f2 f3 f4 g0 b0 b1 r4 HB1 HGV
 go_upto_region 2 with fail
 refine wp_region_held_drew (S:=fun w'=>V.grownBy w' none) (by kernel_rfl) (ai _) (fun hHeld=>?_)
 refine QZ 0 rfl ?_
 go_frame
 refine QZ 1 rfl ?_
 go_frame
 refine QT 2 rfl (by intro w0 hSw;have v2:=QK hSw v2;have v3:=QK hSw v3;have v4:=QK hSw v4;have v5:=QK hSw v5;have v6:=QK hSw v6;have v7:=QK hSw v7;have v8:=QK hSw v8;have v9:=QK hSw v9;go_simp;try with_reducible rfl) ?_
 go_frame
 refine QZ 3 rfl ?_
 go_frame
 refine QT 4 rfl (by intro w0 hSw;have y1:=QK hSw y1;go_simp;try with_reducible rfl) ?_
 go_frame
 refine QZ 5 rfl ?_
 go_frame
 refine QT 6 rfl (by intro w0 hSw;have v10:=QK hSw v10;go_simp;try with_reducible rfl) ?_
 go_frame
 refine QZ 7 rfl ?_
 go_frame
 refine QZ 8 rfl ?_
 go_frame
 refine QT 9 rfl (by intro w0 hSw;have y0:=QK hSw y0;go_simp;try with_reducible rfl) ?_
 go_frame
 refine QT 10 rfl (by intro w0 hSw;have q0:=QK hSw q0;have q1:=QK hSw q1;have q2:=QK hSw q2;have q3:=QK hSw q3;have q4:=QK hSw q4;have q5:=QK hSw q5;have q6:=QK hSw q6;go_simp;try with_reducible rfl) ?_
 go_frame
 refine QR 11 rfl (fun K hK=>?_)
 go_simp
 go_at_call 236
 refine(hU _).mono ?_
 rintro e3 w3 ⟨rfl,g3⟩
 refine hK.out _ _ (ae (ai _) g3) (fun hHeld2=>?_)
 clear hK K
 (try go_frame)
 refine QZ 12 rfl ?_
 go_frame
 refine QD ?_
 go_wp2_with fail
 go_ret
 exact⟨cM HEx.out.symm,ae HG.out hHeld2⟩
theorem bR (w:World) (o p:Obj) (cs:Array Value) (t:TypeId):(((w.alloc o).alloc p).alloc (.cells cs t)).heap[w.heap.size+1+1]?=some (.cells cs t (0,0)):=by have:=ak ((w.alloc o).alloc p) cs t;rwa [World.size_alloc,World.size_alloc] at this
theorem am {a b:World} (h:a.grownBy b none) (hc:a.heap.size≤c) (i:Nat) (v:Value):a.grownBy (b.setCell ⟨c,i,none⟩ v) none:=ar h (aj _ _ _ _) (fun y e=>by cases e;exact hc)
theorem uK (f:Fe) (p:Pt) (ho:Int) (w:World) (hv:p.vb=10):Calls Tryz.prog 147 #[fev f,pv p,.int .i64 ho] w fun e w'=>e=.returned (fev { f with ho:=ho })∧w.grownBy w' none:=by
 obtain⟨W1,hW1⟩:=Qe (((w.alloc (.cells #[.int .i64 f.ho,.int .u8 f.su,.int .u16 f.tr,.int .i64 f.po,.int .i64 f.he] 122)).alloc (.cells #[.int .u8 p.wn,.int .u8 p.vb,.int .u8 p.wm,.int .i64 p.ct,.int .u8 p.su,.int .u8 p.tr,.int .u8 p.mr,.string p.nm] 62)).alloc (.cells #[.int .i64 0,.int .u8 0,.int .u16 0,.int .i64 0,.int .i64 0] 122))
 have HG1:Hid (w.grownBy W1 none):=by rw[hW1];exact al (al QG _) _
 have HF:Hid (W1.heap[w.heap.size]?=some (.cells #[.int .i64 f.ho,.int .u8 f.su,.int .u16 f.tr,.int .i64 f.po,.int .i64 f.he] 122 (0,0))):=by rw[hW1];exact ag (al QG _) (ak w _ _) (by simp)
 have HP:Hid (W1.heap[w.heap.size+1]?=some (.cells #[.int .u8 p.wn,.int .u8 p.vb,.int .u8 p.wm,.int .i64 p.ct,.int .u8 p.su,.int .u8 p.tr,.int .u8 p.mr,.string p.nm] 62 (0,0))):=by rw[hW1];exact ag QG (aO _ _ _ _) (by simp)
 have HR:Hid (W1.heap[w.heap.size+1+1]?=some (.cells #[.int .i64 0,.int .u8 0,.int .u16 0,.int .i64 0,.int .i64 0] 122 (0,0))):=by rw[hW1];exact bR _ _ _ _ _
 have Hv:Hid (p.vb=10):=hv
 clear hv
 unfold fev pv
 go_enter Tryz.func147,Tryz.ntmps147
 go_upto_region 1 with fail
 rw[←hW1]
 clear hW1
 obtain⟨n0,h0⟩:=Qe (w.heap.size)
 have HN:Hid (w.heap.size≤n0∧w.heap.size≤n0+1+1):=by show _∧_;omega
 simp only[←h0] at HF HP HR ⊢
 obtain⟨n1,h1⟩:=Qe (n0+1)
 simp only[←h1] at HP HR HN ⊢
 obtain⟨n2,h2⟩:=Qe (n1+1)
 have d1:n0≠n2:=by omega
 have d2:n1≠n0:=by omega
 simp only[←h2] at HR HN ⊢
 clear h0 h1 h2
 have f0:=QS (aa HF.out 0) (.int .i64 f.ho) rfl
 have f1:=QS (aa HF.out 1) (.int .u8 f.su) rfl
 have f2:=QS (aa HF.out 2) (.int .u16 f.tr) rfl
 have f3:=QS (aa HF.out 3) (.int .i64 f.po) rfl
 have f4:=QS (aa HF.out 4) (.int .i64 f.he) rfl
 have ff:=fun i=>au HF.out i
 have q1:=QS (aa HP.out 1) (.int .u8 p.vb) rfl
 have q3:=QS (aa HP.out 3) (.int .i64 p.ct) rfl
 have q4:=QS (aa HP.out 4) (.int .u8 p.su) rfl
 have q5:=QS (aa HP.out 5) (.int .u8 p.tr) rfl
 have r0:=QS (aa HR.out 0) (.int .i64 0) rfl
 have r1:=QS (aa HR.out 1) (.int .u8 0) rfl
 have r2:=QS (aa HR.out 2) (.int .u16 0) rfl
 have r3:=QS (aa HR.out 3) (.int .i64 0) rfl
 have r4:=QS (aa HR.out 4) (.int .i64 0) rfl
 have rf:=fun i=>au HR.out i
 rw[Hv.out] at q1
 clear q3 q4 q5
 go_wp2
 refine bodyPost_ret (v:=fev { f with ho:=ho }) (by simp[results,Tryz.results147,go_sem,fev,r0,r1,r2,r3,r4]) rfl ⟨rfl,?_⟩
 exact(am (am (am (am (am (am HG1.out HN.out.1 _ _) HN.out.2 _ _) HN.out.2 _ _) HN.out.2 _ _) HN.out.2 _ _) HN.out.2 _ _)
theorem vw (f:Fe) (p:Pt) (ho:Int) (w:World) (hv:p.vb=11):Calls Tryz.prog 147 #[fev f,pv p,.int .i64 ho] w fun e w'=>e=.returned (fev { f with su:=p.su })∧w.grownBy w' none:=by
 obtain⟨W1,hW1⟩:=Qe (((w.alloc (.cells #[.int .i64 f.ho,.int .u8 f.su,.int .u16 f.tr,.int .i64 f.po,.int .i64 f.he] 122)).alloc (.cells #[.int .u8 p.wn,.int .u8 p.vb,.int .u8 p.wm,.int .i64 p.ct,.int .u8 p.su,.int .u8 p.tr,.int .u8 p.mr,.string p.nm] 62)).alloc (.cells #[.int .i64 0,.int .u8 0,.int .u16 0,.int .i64 0,.int .i64 0] 122))
 have HG1:Hid (w.grownBy W1 none):=by rw[hW1];exact al (al QG _) _
 have HF:Hid (W1.heap[w.heap.size]?=some (.cells #[.int .i64 f.ho,.int .u8 f.su,.int .u16 f.tr,.int .i64 f.po,.int .i64 f.he] 122 (0,0))):=by rw[hW1];exact ag (al QG _) (ak w _ _) (by simp)
 have HP:Hid (W1.heap[w.heap.size+1]?=some (.cells #[.int .u8 p.wn,.int .u8 p.vb,.int .u8 p.wm,.int .i64 p.ct,.int .u8 p.su,.int .u8 p.tr,.int .u8 p.mr,.string p.nm] 62 (0,0))):=by rw[hW1];exact ag QG (aO _ _ _ _) (by simp)
 have HR:Hid (W1.heap[w.heap.size+1+1]?=some (.cells #[.int .i64 0,.int .u8 0,.int .u16 0,.int .i64 0,.int .i64 0] 122 (0,0))):=by rw[hW1];exact bR _ _ _ _ _
 have Hv:Hid (p.vb=11):=hv
 clear hv
 unfold fev pv
 go_enter Tryz.func147,Tryz.ntmps147
 go_upto_region 1 with fail
 rw[←hW1]
 clear hW1
 obtain⟨n0,h0⟩:=Qe (w.heap.size)
 have HN:Hid (w.heap.size≤n0∧w.heap.size≤n0+1+1):=by show _∧_;omega
 simp only[←h0] at HF HP HR ⊢
 obtain⟨n1,h1⟩:=Qe (n0+1)
 simp only[←h1] at HP HR HN ⊢
 obtain⟨n2,h2⟩:=Qe (n1+1)
 have d1:n0≠n2:=by omega
 have d2:n1≠n0:=by omega
 simp only[←h2] at HR HN ⊢
 clear h0 h1 h2
 have f0:=QS (aa HF.out 0) (.int .i64 f.ho) rfl
 have f1:=QS (aa HF.out 1) (.int .u8 f.su) rfl
 have f2:=QS (aa HF.out 2) (.int .u16 f.tr) rfl
 have f3:=QS (aa HF.out 3) (.int .i64 f.po) rfl
 have f4:=QS (aa HF.out 4) (.int .i64 f.he) rfl
 have ff:=fun i=>au HF.out i
 have q1:=QS (aa HP.out 1) (.int .u8 p.vb) rfl
 have q3:=QS (aa HP.out 3) (.int .i64 p.ct) rfl
 have q4:=QS (aa HP.out 4) (.int .u8 p.su) rfl
 have q5:=QS (aa HP.out 5) (.int .u8 p.tr) rfl
 have r0:=QS (aa HR.out 0) (.int .i64 0) rfl
 have r1:=QS (aa HR.out 1) (.int .u8 0) rfl
 have r2:=QS (aa HR.out 2) (.int .u16 0) rfl
 have r3:=QS (aa HR.out 3) (.int .i64 0) rfl
 have r4:=QS (aa HR.out 4) (.int .i64 0) rfl
 have rf:=fun i=>au HR.out i
 rw[Hv.out] at q1
 clear q3 q5
 go_wp2
 refine bodyPost_ret (v:=fev { f with su:=p.su }) (by simp[results,Tryz.results147,go_sem,fev,r0,r1,r2,r3,r4]) rfl ⟨rfl,?_⟩
 exact(am (am (am (am (am (am HG1.out HN.out.1 _ _) HN.out.2 _ _) HN.out.2 _ _) HN.out.2 _ _) HN.out.2 _ _) HN.out.2 _ _)
theorem nY (f:Fe) (p:Pt) (ho:Int) (w:World) (hv:p.vb=12):Calls Tryz.prog 147 #[fev f,pv p,.int .i64 ho] w fun e w'=>e=.returned (fev { f with tr:=jX f.tr p.tr })∧w.grownBy w' none:=by
 obtain⟨W1,hW1⟩:=Qe (((w.alloc (.cells #[.int .i64 f.ho,.int .u8 f.su,.int .u16 f.tr,.int .i64 f.po,.int .i64 f.he] 122)).alloc (.cells #[.int .u8 p.wn,.int .u8 p.vb,.int .u8 p.wm,.int .i64 p.ct,.int .u8 p.su,.int .u8 p.tr,.int .u8 p.mr,.string p.nm] 62)).alloc (.cells #[.int .i64 0,.int .u8 0,.int .u16 0,.int .i64 0,.int .i64 0] 122))
 have HG1:Hid (w.grownBy W1 none):=by rw[hW1];exact al (al QG _) _
 have HF:Hid (W1.heap[w.heap.size]?=some (.cells #[.int .i64 f.ho,.int .u8 f.su,.int .u16 f.tr,.int .i64 f.po,.int .i64 f.he] 122 (0,0))):=by rw[hW1];exact ag (al QG _) (ak w _ _) (by simp)
 have HP:Hid (W1.heap[w.heap.size+1]?=some (.cells #[.int .u8 p.wn,.int .u8 p.vb,.int .u8 p.wm,.int .i64 p.ct,.int .u8 p.su,.int .u8 p.tr,.int .u8 p.mr,.string p.nm] 62 (0,0))):=by rw[hW1];exact ag QG (aO _ _ _ _) (by simp)
 have HR:Hid (W1.heap[w.heap.size+1+1]?=some (.cells #[.int .i64 0,.int .u8 0,.int .u16 0,.int .i64 0,.int .i64 0] 122 (0,0))):=by rw[hW1];exact bR _ _ _ _ _
 have Hv:Hid (p.vb=12):=hv
 clear hv
 have C:=Bs f.tr p.tr
 obtain⟨y,hy⟩:=Qe (jX f.tr p.tr)
 rw[←hy] at C ⊢
 clear hy
 unfold fev pv
 go_enter Tryz.func147,Tryz.ntmps147
 go_upto_region 1 with fail
 rw[←hW1]
 clear hW1
 obtain⟨n0,h0⟩:=Qe (w.heap.size)
 have HN:Hid (w.heap.size≤n0∧w.heap.size≤n0+1+1):=by show _∧_;omega
 simp only[←h0] at HF HP HR ⊢
 obtain⟨n1,h1⟩:=Qe (n0+1)
 simp only[←h1] at HP HR HN ⊢
 obtain⟨n2,h2⟩:=Qe (n1+1)
 have d1:n0≠n2:=by omega
 have d2:n1≠n0:=by omega
 simp only[←h2] at HR HN ⊢
 clear h0 h1 h2
 have f0:=QS (aa HF.out 0) (.int .i64 f.ho) rfl
 have f1:=QS (aa HF.out 1) (.int .u8 f.su) rfl
 have f2:=QS (aa HF.out 2) (.int .u16 f.tr) rfl
 have f3:=QS (aa HF.out 3) (.int .i64 f.po) rfl
 have f4:=QS (aa HF.out 4) (.int .i64 f.he) rfl
 have ff:=fun i=>au HF.out i
 have q1:=QS (aa HP.out 1) (.int .u8 p.vb) rfl
 have q3:=QS (aa HP.out 3) (.int .i64 p.ct) rfl
 have q4:=QS (aa HP.out 4) (.int .u8 p.su) rfl
 have q5:=QS (aa HP.out 5) (.int .u8 p.tr) rfl
 have r0:=QS (aa HR.out 0) (.int .i64 0) rfl
 have r1:=QS (aa HR.out 1) (.int .u8 0) rfl
 have r2:=QS (aa HR.out 2) (.int .u16 0) rfl
 have r3:=QS (aa HR.out 3) (.int .i64 0) rfl
 have r4:=QS (aa HR.out 4) (.int .i64 0) rfl
 have rf:=fun i=>au HR.out i
 rw[Hv.out] at q1
 clear q3 q4
 go_wp2_with (go_at_call 215;refine(C _).mono ?_;rintro e w1 ⟨rfl,rfl⟩;clear C)
 refine bodyPost_ret (v:=fev { f with tr:=y }) (by simp[results,Tryz.results147,go_sem,fev,r0,r1,r2,r3,r4]) rfl ⟨rfl,?_⟩
 exact(am (am (am (am (am (am HG1.out HN.out.1 _ _) HN.out.2 _ _) HN.out.2 _ _) HN.out.2 _ _) HN.out.2 _ _) HN.out.2 _ _)
theorem kF (f:Fe) (p:Pt) (ho:Int) (w:World) (hv:p.vb=13):Calls Tryz.prog 147 #[fev f,pv p,.int .i64 ho] w fun e w'=>e=.returned (fev { f with tr:=eR f.tr p.tr })∧w.grownBy w' none:=by
 obtain⟨W1,hW1⟩:=Qe (((w.alloc (.cells #[.int .i64 f.ho,.int .u8 f.su,.int .u16 f.tr,.int .i64 f.po,.int .i64 f.he] 122)).alloc (.cells #[.int .u8 p.wn,.int .u8 p.vb,.int .u8 p.wm,.int .i64 p.ct,.int .u8 p.su,.int .u8 p.tr,.int .u8 p.mr,.string p.nm] 62)).alloc (.cells #[.int .i64 0,.int .u8 0,.int .u16 0,.int .i64 0,.int .i64 0] 122))
 have HG1:Hid (w.grownBy W1 none):=by rw[hW1];exact al (al QG _) _
 have HF:Hid (W1.heap[w.heap.size]?=some (.cells #[.int .i64 f.ho,.int .u8 f.su,.int .u16 f.tr,.int .i64 f.po,.int .i64 f.he] 122 (0,0))):=by rw[hW1];exact ag (al QG _) (ak w _ _) (by simp)
 have HP:Hid (W1.heap[w.heap.size+1]?=some (.cells #[.int .u8 p.wn,.int .u8 p.vb,.int .u8 p.wm,.int .i64 p.ct,.int .u8 p.su,.int .u8 p.tr,.int .u8 p.mr,.string p.nm] 62 (0,0))):=by rw[hW1];exact ag QG (aO _ _ _ _) (by simp)
 have HR:Hid (W1.heap[w.heap.size+1+1]?=some (.cells #[.int .i64 0,.int .u8 0,.int .u16 0,.int .i64 0,.int .i64 0] 122 (0,0))):=by rw[hW1];exact bR _ _ _ _ _
 have Hv:Hid (p.vb=13):=hv
 clear hv
 have C:=tc f.tr p.tr
 obtain⟨y,hy⟩:=Qe (eR f.tr p.tr)
 rw[←hy] at C ⊢
 clear hy
 unfold fev pv
 go_enter Tryz.func147,Tryz.ntmps147
 go_upto_region 1 with fail
 rw[←hW1]
 clear hW1
 obtain⟨n0,h0⟩:=Qe (w.heap.size)
 have HN:Hid (w.heap.size≤n0∧w.heap.size≤n0+1+1):=by show _∧_;omega
 simp only[←h0] at HF HP HR ⊢
 obtain⟨n1,h1⟩:=Qe (n0+1)
 simp only[←h1] at HP HR HN ⊢
 obtain⟨n2,h2⟩:=Qe (n1+1)
 have d1:n0≠n2:=by omega
 have d2:n1≠n0:=by omega
 simp only[←h2] at HR HN ⊢
 clear h0 h1 h2
 have f0:=QS (aa HF.out 0) (.int .i64 f.ho) rfl
 have f1:=QS (aa HF.out 1) (.int .u8 f.su) rfl
 have f2:=QS (aa HF.out 2) (.int .u16 f.tr) rfl
 have f3:=QS (aa HF.out 3) (.int .i64 f.po) rfl
 have f4:=QS (aa HF.out 4) (.int .i64 f.he) rfl
 have ff:=fun i=>au HF.out i
 have q1:=QS (aa HP.out 1) (.int .u8 p.vb) rfl
 have q3:=QS (aa HP.out 3) (.int .i64 p.ct) rfl
 have q4:=QS (aa HP.out 4) (.int .u8 p.su) rfl
 have q5:=QS (aa HP.out 5) (.int .u8 p.tr) rfl
 have r0:=QS (aa HR.out 0) (.int .i64 0) rfl
 have r1:=QS (aa HR.out 1) (.int .u8 0) rfl
 have r2:=QS (aa HR.out 2) (.int .u16 0) rfl
 have r3:=QS (aa HR.out 3) (.int .i64 0) rfl
 have r4:=QS (aa HR.out 4) (.int .i64 0) rfl
 have rf:=fun i=>au HR.out i
 rw[Hv.out] at q1
 clear q3 q4
 go_wp2_with (go_at_call 216;refine(C _).mono ?_;rintro e w1 ⟨rfl,rfl⟩;clear C)
 refine bodyPost_ret (v:=fev { f with tr:=y }) (by simp[results,Tryz.results147,go_sem,fev,r0,r1,r2,r3,r4]) rfl ⟨rfl,?_⟩
 exact(am (am (am (am (am (am HG1.out HN.out.1 _ _) HN.out.2 _ _) HN.out.2 _ _) HN.out.2 _ _) HN.out.2 _ _) HN.out.2 _ _)
theorem rP (f:Fe) (p:Pt) (ho:Int) (w:World) (hv:p.vb=14):Calls Tryz.prog 147 #[fev f,pv p,.int .i64 ho] w fun e w'=>e=.returned (fev { f with po:=p.ct,he:=p.ct })∧w.grownBy w' none:=by
 obtain⟨W1,hW1⟩:=Qe (((w.alloc (.cells #[.int .i64 f.ho,.int .u8 f.su,.int .u16 f.tr,.int .i64 f.po,.int .i64 f.he] 122)).alloc (.cells #[.int .u8 p.wn,.int .u8 p.vb,.int .u8 p.wm,.int .i64 p.ct,.int .u8 p.su,.int .u8 p.tr,.int .u8 p.mr,.string p.nm] 62)).alloc (.cells #[.int .i64 0,.int .u8 0,.int .u16 0,.int .i64 0,.int .i64 0] 122))
 have HG1:Hid (w.grownBy W1 none):=by rw[hW1];exact al (al QG _) _
 have HF:Hid (W1.heap[w.heap.size]?=some (.cells #[.int .i64 f.ho,.int .u8 f.su,.int .u16 f.tr,.int .i64 f.po,.int .i64 f.he] 122 (0,0))):=by rw[hW1];exact ag (al QG _) (ak w _ _) (by simp)
 have HP:Hid (W1.heap[w.heap.size+1]?=some (.cells #[.int .u8 p.wn,.int .u8 p.vb,.int .u8 p.wm,.int .i64 p.ct,.int .u8 p.su,.int .u8 p.tr,.int .u8 p.mr,.string p.nm] 62 (0,0))):=by rw[hW1];exact ag QG (aO _ _ _ _) (by simp)
 have HR:Hid (W1.heap[w.heap.size+1+1]?=some (.cells #[.int .i64 0,.int .u8 0,.int .u16 0,.int .i64 0,.int .i64 0] 122 (0,0))):=by rw[hW1];exact bR _ _ _ _ _
 have Hv:Hid (p.vb=14):=hv
 clear hv
 unfold fev pv
 go_enter Tryz.func147,Tryz.ntmps147
 go_upto_region 1 with fail
 rw[←hW1]
 clear hW1
 obtain⟨n0,h0⟩:=Qe (w.heap.size)
 have HN:Hid (w.heap.size≤n0∧w.heap.size≤n0+1+1):=by show _∧_;omega
 simp only[←h0] at HF HP HR ⊢
 obtain⟨n1,h1⟩:=Qe (n0+1)
 simp only[←h1] at HP HR HN ⊢
 obtain⟨n2,h2⟩:=Qe (n1+1)
 have d1:n0≠n2:=by omega
 have d2:n1≠n0:=by omega
 simp only[←h2] at HR HN ⊢
 clear h0 h1 h2
 have f0:=QS (aa HF.out 0) (.int .i64 f.ho) rfl
 have f1:=QS (aa HF.out 1) (.int .u8 f.su) rfl
 have f2:=QS (aa HF.out 2) (.int .u16 f.tr) rfl
 have f3:=QS (aa HF.out 3) (.int .i64 f.po) rfl
 have f4:=QS (aa HF.out 4) (.int .i64 f.he) rfl
 have ff:=fun i=>au HF.out i
 have q1:=QS (aa HP.out 1) (.int .u8 p.vb) rfl
 have q3:=QS (aa HP.out 3) (.int .i64 p.ct) rfl
 have q4:=QS (aa HP.out 4) (.int .u8 p.su) rfl
 have q5:=QS (aa HP.out 5) (.int .u8 p.tr) rfl
 have r0:=QS (aa HR.out 0) (.int .i64 0) rfl
 have r1:=QS (aa HR.out 1) (.int .u8 0) rfl
 have r2:=QS (aa HR.out 2) (.int .u16 0) rfl
 have r3:=QS (aa HR.out 3) (.int .i64 0) rfl
 have r4:=QS (aa HR.out 4) (.int .i64 0) rfl
 have rf:=fun i=>au HR.out i
 rw[Hv.out] at q1
 clear q4 q5
 go_wp2_with fail
 go_region
 all_goals (go_wp2)
 all_goals (refine bodyPost_ret (v:=fev { f with po:=p.ct,he:=p.ct }) (by simp[results,Tryz.results147,go_sem,fev,r0,r1,r2,r3,r4]) rfl ⟨rfl,?_⟩)
 all_goals exact ae (am (am (am (am (am (am (am HG1.out HN.out.1 _ _) HN.out.1 _ _) HN.out.2 _ _) HN.out.2 _ _) HN.out.2 _ _) HN.out.2 _ _) HN.out.2 _ _) (ai _)
theorem oY (f:Fe) (p:Pt) (ho:Int) (w:World) (hv:p.vb=15):Calls Tryz.prog 147 #[fev f,pv p,.int .i64 ho] w fun e w'=>e=.returned (fev { f with po:=wrap64 (f.po+p.ct),he:=wrap64 (f.he+p.ct) })∧w.grownBy w' none:=by
 obtain⟨W1,hW1⟩:=Qe (((w.alloc (.cells #[.int .i64 f.ho,.int .u8 f.su,.int .u16 f.tr,.int .i64 f.po,.int .i64 f.he] 122)).alloc (.cells #[.int .u8 p.wn,.int .u8 p.vb,.int .u8 p.wm,.int .i64 p.ct,.int .u8 p.su,.int .u8 p.tr,.int .u8 p.mr,.string p.nm] 62)).alloc (.cells #[.int .i64 0,.int .u8 0,.int .u16 0,.int .i64 0,.int .i64 0] 122))
 have HG1:Hid (w.grownBy W1 none):=by rw[hW1];exact al (al QG _) _
 have HF:Hid (W1.heap[w.heap.size]?=some (.cells #[.int .i64 f.ho,.int .u8 f.su,.int .u16 f.tr,.int .i64 f.po,.int .i64 f.he] 122 (0,0))):=by rw[hW1];exact ag (al QG _) (ak w _ _) (by simp)
 have HP:Hid (W1.heap[w.heap.size+1]?=some (.cells #[.int .u8 p.wn,.int .u8 p.vb,.int .u8 p.wm,.int .i64 p.ct,.int .u8 p.su,.int .u8 p.tr,.int .u8 p.mr,.string p.nm] 62 (0,0))):=by rw[hW1];exact ag QG (aO _ _ _ _) (by simp)
 have HR:Hid (W1.heap[w.heap.size+1+1]?=some (.cells #[.int .i64 0,.int .u8 0,.int .u16 0,.int .i64 0,.int .i64 0] 122 (0,0))):=by rw[hW1];exact bR _ _ _ _ _
 have Hv:Hid (p.vb=15):=hv
 clear hv
 unfold fev pv
 go_enter Tryz.func147,Tryz.ntmps147
 go_upto_region 1 with fail
 rw[←hW1]
 clear hW1
 obtain⟨n0,h0⟩:=Qe (w.heap.size)
 have HN:Hid (w.heap.size≤n0∧w.heap.size≤n0+1+1):=by show _∧_;omega
 simp only[←h0] at HF HP HR ⊢
 obtain⟨n1,h1⟩:=Qe (n0+1)
 simp only[←h1] at HP HR HN ⊢
 obtain⟨n2,h2⟩:=Qe (n1+1)
 have d1:n0≠n2:=by omega
 have d2:n1≠n0:=by omega
 simp only[←h2] at HR HN ⊢
 clear h0 h1 h2
 have f0:=QS (aa HF.out 0) (.int .i64 f.ho) rfl
 have f1:=QS (aa HF.out 1) (.int .u8 f.su) rfl
 have f2:=QS (aa HF.out 2) (.int .u16 f.tr) rfl
 have f3:=QS (aa HF.out 3) (.int .i64 f.po) rfl
 have f4:=QS (aa HF.out 4) (.int .i64 f.he) rfl
 have ff:=fun i=>au HF.out i
 have q1:=QS (aa HP.out 1) (.int .u8 p.vb) rfl
 have q3:=QS (aa HP.out 3) (.int .i64 p.ct) rfl
 have q4:=QS (aa HP.out 4) (.int .u8 p.su) rfl
 have q5:=QS (aa HP.out 5) (.int .u8 p.tr) rfl
 have r0:=QS (aa HR.out 0) (.int .i64 0) rfl
 have r1:=QS (aa HR.out 1) (.int .u8 0) rfl
 have r2:=QS (aa HR.out 2) (.int .u16 0) rfl
 have r3:=QS (aa HR.out 3) (.int .i64 0) rfl
 have r4:=QS (aa HR.out 4) (.int .i64 0) rfl
 have rf:=fun i=>au HR.out i
 rw[Hv.out] at q1
 clear q4 q5
 go_wp2
 refine bodyPost_ret (v:=fev { f with po:=wrap64 (f.po+p.ct),he:=wrap64 (f.he+p.ct) }) (by simp[results,Tryz.results147,go_sem,fev,r0,r1,r2,r3,r4]) rfl ⟨rfl,?_⟩
 exact(am (am (am (am (am (am (am HG1.out HN.out.1 _ _) HN.out.1 _ _) HN.out.2 _ _) HN.out.2 _ _) HN.out.2 _ _) HN.out.2 _ _) HN.out.2 _ _)
theorem qW (f:Fe) (p:Pt) (ho:Int) (w:World) (hv:¬(10≤p.vb∧p.vb≤15)):Calls Tryz.prog 147 #[fev f,pv p,.int .i64 ho] w fun e w'=>e=.returned (fev f)∧w.grownBy w' none:=by
 obtain⟨W1,hW1⟩:=Qe (((w.alloc (.cells #[.int .i64 f.ho,.int .u8 f.su,.int .u16 f.tr,.int .i64 f.po,.int .i64 f.he] 122)).alloc (.cells #[.int .u8 p.wn,.int .u8 p.vb,.int .u8 p.wm,.int .i64 p.ct,.int .u8 p.su,.int .u8 p.tr,.int .u8 p.mr,.string p.nm] 62)).alloc (.cells #[.int .i64 0,.int .u8 0,.int .u16 0,.int .i64 0,.int .i64 0] 122))
 have HG1:Hid (w.grownBy W1 none):=by rw[hW1];exact al (al QG _) _
 have HF:Hid (W1.heap[w.heap.size]?=some (.cells #[.int .i64 f.ho,.int .u8 f.su,.int .u16 f.tr,.int .i64 f.po,.int .i64 f.he] 122 (0,0))):=by rw[hW1];exact ag (al QG _) (ak w _ _) (by simp)
 have HP:Hid (W1.heap[w.heap.size+1]?=some (.cells #[.int .u8 p.wn,.int .u8 p.vb,.int .u8 p.wm,.int .i64 p.ct,.int .u8 p.su,.int .u8 p.tr,.int .u8 p.mr,.string p.nm] 62 (0,0))):=by rw[hW1];exact ag QG (aO _ _ _ _) (by simp)
 have HR:Hid (W1.heap[w.heap.size+1+1]?=some (.cells #[.int .i64 0,.int .u8 0,.int .u16 0,.int .i64 0,.int .i64 0] 122 (0,0))):=by rw[hW1];exact bR _ _ _ _ _
 unfold fev pv
 go_enter Tryz.func147,Tryz.ntmps147
 go_upto_region 1 with fail
 rw[←hW1]
 clear hW1
 obtain⟨n0,h0⟩:=Qe (w.heap.size)
 have HN:Hid (w.heap.size≤n0∧w.heap.size≤n0+1+1):=by show _∧_;omega
 simp only[←h0] at HF HP HR ⊢
 obtain⟨n1,h1⟩:=Qe (n0+1)
 simp only[←h1] at HP HR HN ⊢
 obtain⟨n2,h2⟩:=Qe (n1+1)
 have d1:n0≠n2:=by omega
 have d2:n1≠n0:=by omega
 simp only[←h2] at HR HN ⊢
 clear h0 h1 h2
 have f0:=QS (aa HF.out 0) (.int .i64 f.ho) rfl
 have f1:=QS (aa HF.out 1) (.int .u8 f.su) rfl
 have f2:=QS (aa HF.out 2) (.int .u16 f.tr) rfl
 have f3:=QS (aa HF.out 3) (.int .i64 f.po) rfl
 have f4:=QS (aa HF.out 4) (.int .i64 f.he) rfl
 have ff:=fun i=>au HF.out i
 have q1:=QS (aa HP.out 1) (.int .u8 p.vb) rfl
 have q3:=QS (aa HP.out 3) (.int .i64 p.ct) rfl
 have q4:=QS (aa HP.out 4) (.int .u8 p.su) rfl
 have q5:=QS (aa HP.out 5) (.int .u8 p.tr) rfl
 have r0:=QS (aa HR.out 0) (.int .i64 0) rfl
 have r1:=QS (aa HR.out 1) (.int .u8 0) rfl
 have r2:=QS (aa HR.out 2) (.int .u16 0) rfl
 have r3:=QS (aa HR.out 3) (.int .i64 0) rfl
 have r4:=QS (aa HR.out 4) (.int .i64 0) rfl
 have rf:=fun i=>au HR.out i
 have e1:(p.vb == 10)=false:=by simp;omega
 have e2:(p.vb == 11)=false:=by simp;omega
 have e3:(p.vb == 12)=false:=by simp;omega
 have e4:(p.vb == 13)=false:=by simp;omega
 have e5:(p.vb == 14)=false:=by simp;omega
 have e6:(p.vb == 15)=false:=by simp;omega
 clear hv q3 q4 q5
 go_wp2
 refine bodyPost_ret (v:=fev f) (by simp[results,Tryz.results147,go_sem,fev,r0,r1,r2,r3,r4]) rfl ⟨rfl,?_⟩
 exact(am (am (am (am (am HG1.out HN.out.2 _ _) HN.out.2 _ _) HN.out.2 _ _) HN.out.2 _ _) HN.out.2 _ _)
theorem sz (f:Fe) (p:Pt) (ho:Int) (w:World):Calls Tryz.prog 147 #[fev f,pv p,.int .i64 ho] w fun e w'=>e=.returned (fev (fD f p ho))∧w.grownBy w' none:=by
 unfold fD
 by_cases h1:p.vb=10
 ·rw[if_pos h1];exact uK f p ho w h1
 rw[if_neg h1]
 by_cases h2:p.vb=11
 ·rw[if_pos h2];exact vw f p ho w h2
 rw[if_neg h2]
 by_cases h3:p.vb=12
 ·rw[if_pos h3];exact nY f p ho w h3
 rw[if_neg h3]
 by_cases h4:p.vb=13
 ·rw[if_pos h4];exact kF f p ho w h4
 rw[if_neg h4]
 by_cases h5:p.vb=14
 ·rw[if_pos h5];exact rP f p ho w h5
 rw[if_neg h5]
 by_cases h6:p.vb=15
 ·rw[if_pos h6];exact oY f p ho w h6
 rw[if_neg h6]
 exact qW f p ho w (by omega)
end Go.Proofs.YtjmepebbcnhalaaGreat
