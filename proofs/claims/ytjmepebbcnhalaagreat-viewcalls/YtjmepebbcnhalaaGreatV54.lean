import Derived.Test.YtjmepebbcnhalaaGreatV53
import Derived.Test.YtjmepebbcnhalaaGreatRows
import Derived.JoinedOf
namespace Go.Proofs.YtjmepebbcnhalaaGreat
set_option maxRecDepth 100000
set_option maxHeartbeats 40000000
open Go.RowKit Go.Shelf
variable {p:Pl} {es gs:List Ent} {r n k:Int} {cd:Int→Hd×List Pt} {ts:List Th} {pf:Th→Fe} {mf:Fe→Th→Fe} {me:Th→Int} {w:World} {v:Value} {base fuel:Nat} {sp:Nat→Bool} {held:Bool} {P:Program}
def FP (q:Int) (L:List Fe) (Y:World) (e:Ending) (w':World):Prop:=∃ v,e=.returned (.tuple #[v,.int .i64 q])∧Y.grownBy w' none∧feR.Own 122 w' Y.heap.size v L
def DP (q:Int) (L:List Sd) (Y:World) (e:Ending) (w':World):Prop:=∃ v,e=.returned (.tuple #[v,.int .i64 q])∧Y.grownBy w' none∧sdR.Own 64 w' Y.heap.size v L
theorem Es (h:es.map hp=gs.map hp):(es.length:Int)=(gs.length:Int)∧atC p es=atC p gs∧pfB p es=pfR p gs∧mfB p=mfR p∧meB=meR :=
 ⟨by rw[jN h],funext fun n=>Bi h p n,funext fun t=>by unfold pfB pfR;rw[Bi h,F4 h],rfl,rfl⟩
theorem zX:(vBh r n cd ts pf mf me k).length≤ts.length:=by
 unfold vBh
 split
 ·split
  ·unfold bhL
   split
   ·exact Ev
   ·rw[ix,eQ]
    exact Qj _
  ·exact Q0 _
 ·exact Q0 _
structure VcS (w W3 U:World) (pt:Option Addr) (ct:Nat) (ts:List Th) (bT gA nA cA:Nat) (tz:List Th) (FL:List (Nat×Value×List Fe)) (DL:List (Nat×Value×List Sd)):Prop where
 fl:Rws feR 122 U FL
 dl:Rws sdR 64 U DL
 th:thR.At U (.slice pt ts.length ct) ts
 ow:thR.Own 120 U bT (.slice (some ⟨gA,0,none⟩) nA cA) tz
 g3:W3.grownBy U none
 gr:w.grownBy U none
theorem VcS.keep {W3 U V:World} {pt:Option Addr} {ct:Nat} {bT gA nA cA:Nat} {tz:List Th} {FL:List (Nat×Value×List Fe)} {DL:List (Nat×Value×List Sd)} (h:VcS w W3 U pt ct ts bT gA nA cA tz FL DL) (g:U.grownBy V none):VcS w W3 V pt ct ts bT gA nA cA tz FL DL:=⟨h.fl.keep g,h.dl.keep g,h.th.keep g,h.ow.grow g,ae h.g3 g,ae h.gr g⟩
theorem VcS.fe {W3 U V:World} {pt:Option Addr} {ct:Nat} {bT gA nA cA:Nat} {tz:List Th} {FL:List (Nat×Value×List Fe)} {DL:List (Nat×Value×List Sd)} {l:List Fe} (h:VcS w W3 U pt ct ts bT gA nA cA tz FL DL) (g:U.grownBy V none) (o:feR.Own 122 V U.heap.size v l):VcS w W3 V pt ct ts bT gA nA cA tz ((U.heap.size,v,l) :: FL) DL:=⟨h.fl.cons g o,h.dl.keep g,h.th.keep g,h.ow.grow g,ae h.g3 g,ae h.gr g⟩
theorem VcS.sd {W3 U V:World} {pt:Option Addr} {ct:Nat} {bT gA nA cA:Nat} {tz:List Th} {FL:List (Nat×Value×List Fe)} {DL:List (Nat×Value×List Sd)} {l:List Sd} (h:VcS w W3 U pt ct ts bT gA nA cA tz FL DL) (g:U.grownBy V none) (o:sdR.Own 64 V U.heap.size v l):VcS w W3 V pt ct ts bT gA nA cA tz FL ((U.heap.size,v,l) :: DL):=⟨h.fl.keep g,h.dl.cons g o,h.th.keep g,h.ow.grow g,ae h.g3 g,ae h.gr g⟩
theorem oR (vc vm vt:Value) (op:Bool) (cs:List Ent) (ms:List Mk) (ts:List Th) (k n:Int) (w:World) (FI:FiA w vc vm cs ms) (TH:thR.At w vt ts) (BT:(ts.length+2)*88≤140737488355328):Calls Tryz.prog 4 #[.agg #[vc,vm,.bool op],vt,.int .i64 k,.int .i64 n] w fun e w'=>e=.returned (.bool true)∧w.grownBy w' none:=by
 obtain⟨pc,kc,pm,km,rfl,rfl⟩:=FI.forms
 obtain⟨pt,ct,rfl⟩:=TH.form
 obtain⟨W,hW⟩:=Qe (w.alloc (.cells #[.slice pc cs.length kc,.slice pm ms.length km,.bool op] 25))
 have HG:Hid (w.grownBy W none):=by rw[hW];exact QG
 have H0:Hid (W.heap[w.heap.size]?=some (.cells #[.slice pc cs.length kc,.slice pm ms.length km,.bool op] 25 (0,0))):=by rw[hW];exact ak _ _ _
 have HF:Hid (FiA W (.slice pc cs.length kc) (.slice pm ms.length km) cs ms∧thR.At W (.slice pt ts.length ct) ts):=⟨FI.keep HG.out,TH.keep HG.out⟩
 have HBT:Hid ((ts.length+2)*88≤140737488355328):=BT
 clear FI TH BT
 go_enter Tryz.func4,Tryz.ntmps4
 go_upto_region 1 with fail
 rw[←hW]
 obtain⟨b0,hb0⟩:=Qe (w.heap.size)
 rw[←hb0] at H0 ⊢
 clear hW hb0
 have C1:=vX W
 go_wp2_with fail
 refine C1.mono ?_
 rintro e1 w1 ⟨rfl,g1⟩
 have H1:Hid (w1.heap[b0]?=some (.cells #[.slice pc cs.length kc,.slice pm ms.length km,.bool op] 25 (0,0))∧FiA w1 (.slice pc cs.length kc) (.slice pm ms.length km) cs ms∧thR.At w1 (.slice pt ts.length ct) ts∧w.grownBy w1 none):=⟨ag g1 H0.out (by simp),HF.out.1.keep g1,HF.out.2.keep g1,ae HG.out g1⟩
 clear C1 g1 H0 HF HG
 have C2:=zi pc pm pt cs.length ms.length ts.length kc km ct op w1
 have f0:w1.cell? ⟨b0,0,none⟩=some (.slice pc cs.length kc):=(aa H1.out.1 0).trans rfl
 have f1:w1.cell? ⟨b0,1,none⟩=some (.slice pm ms.length km):=(aa H1.out.1 1).trans rfl
 have f2:w1.cell? ⟨b0,2,none⟩=some (.bool op):=(aa H1.out.1 2).trans rfl
 go_wp2_with fail
 refine C2.mono ?_
 rintro e2 w2 ⟨rfl,g2⟩
 have H2:Hid (w2.heap[b0]?=some (.cells #[.slice pc cs.length kc,.slice pm ms.length km,.bool op] 25 (0,0))∧FiA w2 (.slice pc cs.length kc) (.slice pm ms.length km) cs ms∧thR.At w2 (.slice pt ts.length ct) ts∧w.grownBy w2 none):=⟨ag g2 H1.out.1 (by simp),H1.out.2.1.keep g2,H1.out.2.2.1.keep g2,ae H1.out.2.2.2 g2⟩
 clear C2 g2 H1 f0 f1 f2
 obtain⟨lb,hlb⟩:=Qe (fB cs.length ms.length ts.length)
 rw[←hlb]
 clear hlb
 cases lb with
 | true =>
  go_wp2_with fail
  go_ret
  exact⟨rfl,H2.out.2.2.2⟩
 | false =>
  have C3:=xY _ _ op cs ms w2 H2.out.2.1
  unfold lG at C3
  have f0:w2.cell? ⟨b0,0,none⟩=some (.slice pc cs.length kc):=(aa H2.out.1 0).trans rfl
  have f1:w2.cell? ⟨b0,1,none⟩=some (.slice pm ms.length km):=(aa H2.out.1 1).trans rfl
  have f2:w2.cell? ⟨b0,2,none⟩=some (.bool op):=(aa H2.out.1 2).trans rfl
  obtain⟨nB,hnB⟩:=Qe (w2.heap.size+1)
  rw[←hnB] at C3
  clear hnB
  go_wp2_with fail
  refine C3.mono ?_
  rintro e3 w3 ⟨v1,es,gs,p,rfl,P,hNd,g3⟩
  have HRC:Hid (RgC (atC p gs)):=RgC.of (fun e he=>by obtain⟨d,hd,h1,h2⟩:=xH P.same he;rw[←h1,←h2];exact hNd.2 d hd)
  have HP:Hid (Pr (okB nB) w3 nB (nB+1) v1 es gs p):=P
  have H3:Hid (thR.At w3 (.slice pt ts.length ct) ts∧w.grownBy w3 none):=⟨H2.out.2.2.1.keep g3,ae H2.out.2.2.2 g3⟩
  clear C3 P hNd g3 f0 f1 f2 H2
  obtain⟨s1,s2,s3,s4,s5⟩:=Es (p:=p) HP.out.same
  obtain⟨q1,hq1⟩:=Qe (vqR p gs ts 6)
  obtain⟨L1,hL1⟩:=Qe (vBR p gs ts 6)
  have P1:Hid (∀ Y v',w3.grownBy Y none→thR.At Y v' ts→(∃ q c,v'=.slice q ts.length c∧ts.length≤c)→Calls Tryz.prog 29 #[.pointer (some ⟨nB,0,none⟩),v'] Y (FP q1 L1 Y)):=fun Y v' g A c=>by
   have z:=xw _ _ _ _ _ ts _ _ _ Y (VIn.of (HP.out.book.keep g) A c)
   rw[s1,s2,s3,s4,s5] at z
   rw[hq1,hL1]
   exact z
  have R1:Hid (∀ Y,w3.grownBy Y none→thR.At Y (.slice pt ts.length ct) ts→Calls Tryz.prog 34 #[.pointer (some ⟨nB+1,0,none⟩),.slice pt ts.length ct] Y (FP q1 L1 Y)):=fun Y g A=>by
   rw[hq1,hL1]
   exact zD (okB nB) (nB+1) v1 p gs _ ts Y (HP.out.rd.keep g) A HRC.out
  obtain⟨q2,hq2⟩:=Qe (vqR p gs ts k)
  obtain⟨L2,hL2⟩:=Qe (vBR p gs ts k)
  have P2:Hid (∀ Y v',w3.grownBy Y none→thR.At Y v' ts→(∃ q c,v'=.slice q ts.length c∧ts.length≤c)→Calls Tryz.prog 30 #[.pointer (some ⟨nB,0,none⟩),v',.int .i64 k] Y (FP q2 L2 Y)):=fun Y v' g A c=>by
   have z:=lU _ _ _ _ _ ts _ _ _ k Y (VIn.of (HP.out.book.keep g) A c)
   rw[s1,s2,s3,s4,s5] at z
   rw[hq2,hL2]
   exact z
  have R2:Hid (∀ Y,w3.grownBy Y none→thR.At Y (.slice pt ts.length ct) ts→Calls Tryz.prog 35 #[.pointer (some ⟨nB+1,0,none⟩),.slice pt ts.length ct,.int .i64 k] Y (FP q2 L2 Y)):=fun Y g A=>by
   rw[hq2,hL2]
   exact jw (okB nB) (nB+1) v1 p gs _ ts k Y (HP.out.rd.keep g) A HRC.out
  obtain⟨q3,hq3⟩:=Qe (vkR p gs ts)
  obtain⟨L3,hL3⟩:=Qe ((vSt (bg p ts.length) (gs.length:Int) (atC p gs) ts (pfR p gs) meR).map Se.s)
  have P3:Hid (∀ Y v',w3.grownBy Y none→thR.At Y v' ts→(∃ q c,v'=.slice q ts.length c∧ts.length≤c)→Calls Tryz.prog 31 #[.pointer (some ⟨nB,0,none⟩),v'] Y (DP q3 L3 Y)):=fun Y v' g A c=>by
   have z:=vZ _ _ _ _ _ ts _ _ _ Y (VIn.of (HP.out.book.keep g) A c)
   rw[s1,s2,s3,s5] at z
   rw[hq3,hL3]
   exact z
  have R3:Hid (∀ Y,w3.grownBy Y none→thR.At Y (.slice pt ts.length ct) ts→Calls Tryz.prog 36 #[.pointer (some ⟨nB+1,0,none⟩),.slice pt ts.length ct] Y (DP q3 L3 Y)):=fun Y g A=>by
   rw[hq3,hL3]
   exact qw (okB nB) (nB+1) v1 p gs _ ts Y (HP.out.rd.keep g) A HRC.out
  obtain⟨q4,hq4⟩:=Qe (vqE (vkR p gs ts) (onT ts n) 6)
  obtain⟨L4,hL4⟩:=Qe ((vWh (bg p ts.length) (gs.length:Int) (atC p gs) ts (pfR p gs) meR n).map Se.s)
  have P4:Hid (∀ Y v',w3.grownBy Y none→thR.At Y v' ts→(∃ q c,v'=.slice q ts.length c∧ts.length≤c)→Calls Tryz.prog 32 #[.pointer (some ⟨nB,0,none⟩),v',.int .i64 n] Y (DP q4 L4 Y)):=fun Y v' g A c=>by
   have z:=Ar _ _ _ _ _ ts _ _ _ n Y (VIn.of (HP.out.book.keep g) A c)
   rw[s1,s2,s3,s5] at z
   rw[hq4,hL4]
   exact z
  have R4:Hid (∀ Y,w3.grownBy Y none→thR.At Y (.slice pt ts.length ct) ts→Calls Tryz.prog 37 #[.pointer (some ⟨nB+1,0,none⟩),.slice pt ts.length ct,.int .i64 n] Y (DP q4 L4 Y)):=fun Y g A=>by
   rw[hq4,hL4]
   exact uX (okB nB) (nB+1) v1 p gs _ ts n Y (HP.out.rd.keep g) A HRC.out
  have HLn:Hid (ba L1.length∧ba L2.length):=by
   have a1:L1.length≤ts.length:=by rw[hL1];exact zX
   have a2:L2.length≤ts.length:=by rw[hL2];exact zX
   have a3:=HBT.out
   exact⟨by unfold ba;omega,by unfold ba;omega⟩
  clear HP HRC s1 s2 s3 s4 s5 hq1 hq2 hq3 hq4 hL1 hL2 hL3 hL4
  clear p es gs v1
  have C4:=uZ _ ts w3 H3.out.1 HBT.out
  go_wp2_with fail
  refine C4.mono ?_
  rintro e4 w4 ⟨vA,rfl,oA,g4⟩
  obtain⟨tz,htz⟩:=Qe (ts++[da,da])
  rw[←htz] at oA
  obtain⟨nA,hnA⟩:=Qe (tz.length)
  have HnA:Hid (tz=ts++[da,da]∧nA=tz.length∧nA=ts.length+2):=⟨htz,hnA,by rw[hnA,htz,Qa] <;> rfl⟩
  have z:=oA
  unfold az.Own at z
  rw[←hnA] at z
  obtain⟨gA,cA,rfl,bgA,lgA,ncA,-,-⟩:=cH z (by rw[HnA.out.2.2];omega)
  obtain⟨bT,hbT⟩:=Qe (w3.heap.size)
  rw[←hbT] at oA bgA
  have HA:Hid (bT≤gA∧gA<w4.heap.size∧nA≤cA∧w.heap.size≤bT∧ba nA):=⟨bgA,lgA,ncA,by rw[hbT];exact H3.out.2.size,by rw[HnA.out.2.2];unfold ba;have:=HBT.out;omega⟩
  have S0:Hid (VcS w w3 w4 pt ct ts bT gA nA cA tz [] []):=⟨Rws.nil _ _ _,Rws.nil _ _ _,H3.out.1.keep g4,oA,g4,ae H3.out.2 g4⟩
  have HTk:Hid (∀ Y,thR.Own 120 Y bT (.slice (some ⟨gA,0,none⟩) nA cA) tz→thR.At Y (.slice (some ⟨gA,0,none⟩) ts.length cA) ts):=fun Y o=>by
   have t1:=az.At.take (az.Own.at o) ts.length (by rw[HnA.out.2.2];omega)
   rwa [HnA.out.1,List.take_left] at t1
  have HCp:Hid (∃ q c,Value.slice (some ⟨gA,0,none⟩) ts.length cA=.slice q ts.length c∧ts.length≤c):=⟨_,_,rfl,by have:=HA.out.2.2.1;have:=HnA.out.2.2;omega⟩
  have HTk':Hid (tz=ts++[da,da]∧nA=tz.length):=⟨HnA.out.1,HnA.out.2.1⟩
  have ka1:(ts.length:Int)≤(cA:Int):=by have:=HA.out.2.2.1;have:=HnA.out.2.2;omega
  have ka2:ts.length≤cA:=by have:=HA.out.2.2.1;have:=HnA.out.2.2;omega
  have HBS:Hid (w.heap.size≤gA∧gA<w4.heap.size):=⟨by have:=HA.out;omega,HA.out.2.1⟩
  have Hb3:Hid (∀ y,bT≤y→w3.heap.size≤y):=fun y h=>by rw[←hbT];exact h
  have H3a:Hid (thR.At w3 (.slice pt ts.length ct) ts):=H3.out.1
  clear C4 z oA bgA lgA ncA hbT htz hnA g4 H3
  have C5:=P1.out w4 _ S0.out.g3 (HTk.out w4 S0.out.ow) HCp.out
  unfold FP at C5
  go_wp2_with fail
  refine C5.mono ?_
  rintro e5 w5 ⟨v,rfl,g,o⟩
  clear ka1 ka2
  obtain⟨pla,cla,rfl⟩:=az.Own.form o
  have S1:Hid (VcS w w3 w5 pt ct ts bT gA nA cA tz [(w4.heap.size,.slice pla L1.length cla,L1)] []):=S0.out.fe g o
  have z5:w4.heap.size≤w5.heap.size:=g.size
  clear C5 g o S0
  have C6:=P2.out w5 _ S1.out.g3 (HTk.out w5 S1.out.ow) HCp.out
  unfold FP at C6
  go_wp2_with fail
  refine C6.mono ?_
  rintro e6 w6 ⟨v,rfl,g,o⟩
  obtain⟨plc,clc,rfl⟩:=az.Own.form o
  have S2:Hid (VcS w w3 w6 pt ct ts bT gA nA cA tz [(w5.heap.size,.slice plc L2.length clc,L2),(w4.heap.size,.slice pla L1.length cla,L1)] []):=S1.out.fe g o
  have z6:w5.heap.size≤w6.heap.size:=g.size
  clear C6 g o S1
  have C7:=P3.out w6 _ S2.out.g3 (HTk.out w6 S2.out.ow) HCp.out
  unfold DP at C7
  go_wp2_with fail
  refine C7.mono ?_
  rintro e7 w7 ⟨v,rfl,g,o⟩
  obtain⟨pld,cld,rfl⟩:=az.Own.form o
  have S3:Hid (VcS w w3 w7 pt ct ts bT gA nA cA tz [(w5.heap.size,.slice plc L2.length clc,L2),(w4.heap.size,.slice pla L1.length cla,L1)] [(w6.heap.size,.slice pld L3.length cld,L3)]):=S2.out.sd g o
  have z7:w6.heap.size≤w7.heap.size:=g.size
  clear C7 g o S2
  have C8:=P4.out w7 _ S3.out.g3 (HTk.out w7 S3.out.ow) HCp.out
  unfold DP at C8
  go_wp2_with fail
  refine C8.mono ?_
  rintro e8 w8 ⟨v,rfl,g,o⟩
  obtain⟨ply,cly,rfl⟩:=az.Own.form o
  have S4:Hid (VcS w w3 w8 pt ct ts bT gA nA cA tz [(w5.heap.size,.slice plc L2.length clc,L2),(w4.heap.size,.slice pla L1.length cla,L1)] [(w7.heap.size,.slice ply L4.length cly,L4),(w6.heap.size,.slice pld L3.length cld,L3)]):=S3.out.sd g o
  have z8:w7.heap.size≤w8.heap.size:=g.size
  clear C8 g o S3
  have C9:=P1.out w8 _ S4.out.g3 (HTk.out w8 S4.out.ow) HCp.out
  unfold FP at C9
  go_wp2_with fail
  refine C9.mono ?_
  rintro e9 w9 ⟨v,rfl,g,o⟩
  obtain⟨plx,clx,rfl⟩:=az.Own.form o
  have S5:Hid (VcS w w3 w9 pt ct ts bT gA nA cA tz [(w8.heap.size,.slice plx L1.length clx,L1),(w5.heap.size,.slice plc L2.length clc,L2),(w4.heap.size,.slice pla L1.length cla,L1)] [(w7.heap.size,.slice ply L4.length cly,L4),(w6.heap.size,.slice pld L3.length cld,L3)]):=S4.out.fe g o
  have z9:w8.heap.size≤w9.heap.size:=g.size
  clear C9 g o S4
  have C10:=P3.out w9 _ S5.out.g3 (HTk.out w9 S5.out.ow) HCp.out
  unfold DP at C10
  go_wp2_with fail
  refine C10.mono ?_
  rintro e10 w10 ⟨v,rfl,g,o⟩
  obtain⟨plz,clz,rfl⟩:=az.Own.form o
  have S6:Hid (VcS w w3 w10 pt ct ts bT gA nA cA tz [(w8.heap.size,.slice plx L1.length clx,L1),(w5.heap.size,.slice plc L2.length clc,L2),(w4.heap.size,.slice pla L1.length cla,L1)] [(w9.heap.size,.slice plz L3.length clz,L3),(w7.heap.size,.slice ply L4.length cly,L4),(w6.heap.size,.slice pld L3.length cld,L3)]):=S5.out.sd g o
  clear C10 g o S5
  clear P1 P2 P3 P4 HTk HCp
  have HB:Hid (w4.heap.size≤w5.heap.size∧w5.heap.size≤w6.heap.size∧w6.heap.size≤w7.heap.size∧w7.heap.size≤w8.heap.size∧w8.heap.size≤w9.heap.size∧w.heap.size≤gA∧gA<w4.heap.size):=⟨z5,z6,z7,z8,z9,HBS.out.1,HBS.out.2⟩
  obtain⟨b4,hb4⟩:=Qe (w4.heap.size)
  obtain⟨b5,hb5⟩:=Qe (w5.heap.size)
  obtain⟨b6,hb6⟩:=Qe (w6.heap.size)
  obtain⟨b7,hb7⟩:=Qe (w7.heap.size)
  obtain⟨b8,hb8⟩:=Qe (w8.heap.size)
  obtain⟨b9,hb9⟩:=Qe (w9.heap.size)
  rw[←hb4,←hb5,←hb6,←hb7,←hb8,←hb9] at HB S6
  clear hb4 hb5 hb6 hb7 hb8 hb9 HBS
  clear z5 z6 z7 z8 z9
  have C11:=ui (.slice (some ⟨gA,0,none⟩) nA cA) _ ts w10 (by have z:=az.Own.at S6.out.ow;rwa [HTk'.out.1] at z) S6.out.th HBT.out
  go_wp2_with fail
  refine C11.mono ?_
  rintro e11 w11 ⟨rfl,g11⟩
  have S7:Hid (VcS w w3 w11 pt ct ts bT gA nA cA tz [(b8,.slice plx L1.length clx,L1),(b5,.slice plc L2.length clc,L2),(b4,.slice pla L1.length cla,L1)] [(b9,.slice plz L3.length clz,L3),(b7,.slice ply L4.length cly,L4),(b6,.slice pld L3.length cld,L3)]):=S6.out.keep g11
  clear C11 g11 S6
  have C12:=wi bT gA nA cA tz w11 S7.out.ow HTk'.out.2.symm HA.out.2.2.2.2
  go_wp2_with fail
  refine C12.mono ?_
  rintro e12 w12 ⟨rfl,g12⟩
  have hq:∀ y,some gA=some y→y<b4:=fun y e=>by cases e;exact HB.out.2.2.2.2.2.2
  have S8:Hid (Rws feR 122 w12 [(b8,.slice plx L1.length clx,L1),(b5,.slice plc L2.length clc,L2),(b4,.slice pla L1.length cla,L1)]∧Rws sdR 64 w12 [(b9,.slice plz L3.length clz,L3),(b7,.slice ply L4.length cly,L4),(b6,.slice pld L3.length cld,L3)]∧thR.At w12 (.slice pt ts.length ct) ts∧w3.grownBy w12 none∧w.grownBy w12 none):=by
   have hB:=HB.out
   have g:=ar S7.out.g3 g12 (fun y e=>by cases e;have:=HA.out;exact Hb3.out gA this.1)
   refine⟨S7.out.fl.past g12 (fun y e a ha=>?_),S7.out.dl.past g12 (fun y e a ha=>?_),H3a.out.keep g,g,ar S7.out.gr g12 (fun y e=>by cases e;exact HB.out.2.2.2.2.2.1)⟩
   ·have:=hq y e
    simp only[List.mem_cons,List.not_mem_nil,or_false] at ha
    rcases ha with rfl | rfl | rfl <;> (show y<_;omega)
   ·have:=hq y e
    simp only[List.mem_cons,List.not_mem_nil,or_false] at ha
    rcases ha with rfl | rfl | rfl <;> (show y<_;omega)
  clear C12 g12 S7 hq HA
  have C13:=R1.out w12 S8.out.2.2.2.1 S8.out.2.2.1
  unfold FP at C13
  go_wp2_with fail
  refine C13.mono ?_
  rintro e13 w13 ⟨v,rfl,g,o⟩
  obtain⟨pdp,cdp,rfl⟩:=az.Own.form o
  have S9:Hid (Rws feR 122 w13 [(b8,.slice plx L1.length clx,L1),(b5,.slice plc L2.length clc,L2),(b4,.slice pla L1.length cla,L1)]∧Rws sdR 64 w13 [(b9,.slice plz L3.length clz,L3),(b7,.slice ply L4.length cly,L4),(b6,.slice pld L3.length cld,L3)]∧thR.At w13 (.slice pt ts.length ct) ts∧w3.grownBy w13 none∧w.grownBy w13 none):=⟨S8.out.1.keep g,S8.out.2.1.keep g,S8.out.2.2.1.keep g,ae S8.out.2.2.2.1 g,ae S8.out.2.2.2.2 g⟩
  have D0:Hid (feR.Own 122 w13 0 (.slice pdp L1.length cdp) L1):=aP o (Q0 _)
  clear C13 g o S8
  have C14:=R2.out w13 S9.out.2.2.2.1 S9.out.2.2.1
  unfold FP at C14
  go_wp2_with fail
  refine C14.mono ?_
  rintro e14 w14 ⟨v,rfl,g,o⟩
  obtain⟨pdq,cdq,rfl⟩:=az.Own.form o
  have S10:Hid (Rws feR 122 w14 [(b8,.slice plx L1.length clx,L1),(b5,.slice plc L2.length clc,L2),(b4,.slice pla L1.length cla,L1)]∧Rws sdR 64 w14 [(b9,.slice plz L3.length clz,L3),(b7,.slice ply L4.length cly,L4),(b6,.slice pld L3.length cld,L3)]∧thR.At w14 (.slice pt ts.length ct) ts∧w3.grownBy w14 none∧w.grownBy w14 none):=⟨S9.out.1.keep g,S9.out.2.1.keep g,S9.out.2.2.1.keep g,ae S9.out.2.2.2.1 g,ae S9.out.2.2.2.2 g⟩
  have D1:Hid (feR.Own 122 w14 0 (.slice pdp L1.length cdp) L1∧feR.Own 122 w14 0 (.slice pdq L2.length cdq) L2):=⟨aw D0.out g,aP o (Q0 _)⟩
  clear C14 g o S9 D0
  have C15:=R3.out w14 S10.out.2.2.2.1 S10.out.2.2.1
  unfold DP at C15
  go_wp2_with fail
  refine C15.mono ?_
  rintro e15 w15 ⟨v,rfl,g,o⟩
  obtain⟨pds,cds,rfl⟩:=az.Own.form o
  have S11:Hid (Rws feR 122 w15 [(b8,.slice plx L1.length clx,L1),(b5,.slice plc L2.length clc,L2),(b4,.slice pla L1.length cla,L1)]∧Rws sdR 64 w15 [(b9,.slice plz L3.length clz,L3),(b7,.slice ply L4.length cly,L4),(b6,.slice pld L3.length cld,L3)]∧thR.At w15 (.slice pt ts.length ct) ts∧w3.grownBy w15 none∧w.grownBy w15 none):=⟨S10.out.1.keep g,S10.out.2.1.keep g,S10.out.2.2.1.keep g,ae S10.out.2.2.2.1 g,ae S10.out.2.2.2.2 g⟩
  have D2:Hid (feR.Own 122 w15 0 (.slice pdp L1.length cdp) L1∧feR.Own 122 w15 0 (.slice pdq L2.length cdq) L2∧sdR.Own 64 w15 0 (.slice pds L3.length cds) L3):=⟨aw D1.out.1 g,aw D1.out.2 g,aP o (Q0 _)⟩
  clear C15 g o S10 D1
  have C16:=R4.out w15 S11.out.2.2.2.1 S11.out.2.2.1
  unfold DP at C16
  go_wp2_with fail
  refine C16.mono ?_
  rintro e16 w16 ⟨v,rfl,g,o⟩
  obtain⟨pdt,cdt,rfl⟩:=az.Own.form o
  have S12:Hid (Rws feR 122 w16 [(b8,.slice plx L1.length clx,L1),(b5,.slice plc L2.length clc,L2),(b4,.slice pla L1.length cla,L1)]∧Rws sdR 64 w16 [(b9,.slice plz L3.length clz,L3),(b7,.slice ply L4.length cly,L4),(b6,.slice pld L3.length cld,L3)]∧thR.At w16 (.slice pt ts.length ct) ts∧w3.grownBy w16 none∧w.grownBy w16 none):=⟨S11.out.1.keep g,S11.out.2.1.keep g,S11.out.2.2.1.keep g,ae S11.out.2.2.2.1 g,ae S11.out.2.2.2.2 g⟩
  have D3:Hid (feR.Own 122 w16 0 (.slice pdp L1.length cdp) L1∧feR.Own 122 w16 0 (.slice pdq L2.length cdq) L2∧sdR.Own 64 w16 0 (.slice pds L3.length cds) L3∧sdR.Own 64 w16 0 (.slice pdt L4.length cdt) L4):=⟨aw D2.out.1 g,aw D2.out.2.1 g,aw D2.out.2.2 g,aP o (Q0 _)⟩
  clear C16 g o S11 D2
  clear R1 R2 R3 R4
  have e1:(q1 != q1)=false:=by simp
  have e2:(q2 != q2)=false:=by simp
  have e3:(q3 != q3)=false:=by simp
  have e4:(q4 != q4)=false:=by simp
  have C17:=jR _ _ L1 w16 (az.Own.at (S12.out.1.all _ (List.mem_cons_of_mem _ (List.mem_cons_of_mem _ List.mem_cons_self)))) (az.Own.at D3.out.1) HLn.out.1
  go_wp2_with fail
  refine C17.mono ?_
  rintro e17 w17 ⟨rfl,g⟩
  have T0:Hid (Rws feR 122 w17 [(b8,.slice plx L1.length clx,L1),(b5,.slice plc L2.length clc,L2),(b4,.slice pla L1.length cla,L1)]∧Rws sdR 64 w17 [(b9,.slice plz L3.length clz,L3),(b7,.slice ply L4.length cly,L4),(b6,.slice pld L3.length cld,L3)]∧thR.At w17 (.slice pt ts.length ct) ts∧w3.grownBy w17 none∧w.grownBy w17 none):=⟨S12.out.1.keep g,S12.out.2.1.keep g,S12.out.2.2.1.keep g,ae S12.out.2.2.2.1 g,ae S12.out.2.2.2.2 g⟩
  have E0:Hid (feR.Own 122 w17 0 (.slice pdp L1.length cdp) L1∧feR.Own 122 w17 0 (.slice pdq L2.length cdq) L2∧sdR.Own 64 w17 0 (.slice pds L3.length cds) L3∧sdR.Own 64 w17 0 (.slice pdt L4.length cdt) L4):=⟨aw D3.out.1 g,aw D3.out.2.1 g,aw D3.out.2.2.1 g,aw D3.out.2.2.2 g⟩
  clear C17 g S12 D3 e1 e2 e3 e4
  have C18:=jR _ _ L2 w17 (az.Own.at (T0.out.1.all _ (List.mem_cons_of_mem _ List.mem_cons_self))) (az.Own.at E0.out.2.1) HLn.out.2
  go_wp2_with fail
  refine C18.mono ?_
  rintro e18 w18 ⟨rfl,g⟩
  have T1:Hid (Rws feR 122 w18 [(b8,.slice plx L1.length clx,L1),(b5,.slice plc L2.length clc,L2),(b4,.slice pla L1.length cla,L1)]∧Rws sdR 64 w18 [(b9,.slice plz L3.length clz,L3),(b7,.slice ply L4.length cly,L4),(b6,.slice pld L3.length cld,L3)]∧thR.At w18 (.slice pt ts.length ct) ts∧w3.grownBy w18 none∧w.grownBy w18 none):=⟨T0.out.1.keep g,T0.out.2.1.keep g,T0.out.2.2.1.keep g,ae T0.out.2.2.2.1 g,ae T0.out.2.2.2.2 g⟩
  have E1:Hid (feR.Own 122 w18 0 (.slice pdp L1.length cdp) L1∧feR.Own 122 w18 0 (.slice pdq L2.length cdq) L2∧sdR.Own 64 w18 0 (.slice pds L3.length cds) L3∧sdR.Own 64 w18 0 (.slice pdt L4.length cdt) L4):=⟨aw E0.out.1 g,aw E0.out.2.1 g,aw E0.out.2.2.1 g,aw E0.out.2.2.2 g⟩
  clear C18 g T0 E0
  have C19:=jx _ _ L3 w18 (az.Own.at (T1.out.2.1.all _ (List.mem_cons_of_mem _ (List.mem_cons_of_mem _ List.mem_cons_self)))) (az.Own.at E1.out.2.2.1) (rL E1.out.2.2.1)
  go_wp2_with fail
  refine C19.mono ?_
  rintro e19 w19 ⟨rfl,g⟩
  have T2:Hid (Rws feR 122 w19 [(b8,.slice plx L1.length clx,L1),(b5,.slice plc L2.length clc,L2),(b4,.slice pla L1.length cla,L1)]∧Rws sdR 64 w19 [(b9,.slice plz L3.length clz,L3),(b7,.slice ply L4.length cly,L4),(b6,.slice pld L3.length cld,L3)]∧thR.At w19 (.slice pt ts.length ct) ts∧w3.grownBy w19 none∧w.grownBy w19 none):=⟨T1.out.1.keep g,T1.out.2.1.keep g,T1.out.2.2.1.keep g,ae T1.out.2.2.2.1 g,ae T1.out.2.2.2.2 g⟩
  have E2:Hid (feR.Own 122 w19 0 (.slice pdp L1.length cdp) L1∧feR.Own 122 w19 0 (.slice pdq L2.length cdq) L2∧sdR.Own 64 w19 0 (.slice pds L3.length cds) L3∧sdR.Own 64 w19 0 (.slice pdt L4.length cdt) L4):=⟨aw E1.out.1 g,aw E1.out.2.1 g,aw E1.out.2.2.1 g,aw E1.out.2.2.2 g⟩
  clear C19 g T1 E1
  have C20:=jx _ _ L4 w19 (az.Own.at (T2.out.2.1.all _ (List.mem_cons_of_mem _ List.mem_cons_self))) (az.Own.at E2.out.2.2.2) (rL E2.out.2.2.2)
  go_wp2_with fail
  refine C20.mono ?_
  rintro e20 w20 ⟨rfl,g⟩
  have T3:Hid (Rws feR 122 w20 [(b8,.slice plx L1.length clx,L1),(b5,.slice plc L2.length clc,L2),(b4,.slice pla L1.length cla,L1)]∧Rws sdR 64 w20 [(b9,.slice plz L3.length clz,L3),(b7,.slice ply L4.length cly,L4),(b6,.slice pld L3.length cld,L3)]∧thR.At w20 (.slice pt ts.length ct) ts∧w3.grownBy w20 none∧w.grownBy w20 none):=⟨T2.out.1.keep g,T2.out.2.1.keep g,T2.out.2.2.1.keep g,ae T2.out.2.2.2.1 g,ae T2.out.2.2.2.2 g⟩
  have E3:Hid (feR.Own 122 w20 0 (.slice pdp L1.length cdp) L1∧feR.Own 122 w20 0 (.slice pdq L2.length cdq) L2∧sdR.Own 64 w20 0 (.slice pds L3.length cds) L3∧sdR.Own 64 w20 0 (.slice pdt L4.length cdt) L4):=⟨aw E2.out.1 g,aw E2.out.2.1 g,aw E2.out.2.2.1 g,aw E2.out.2.2.2 g⟩
  clear C20 g T2 E2
  have C21:=jR _ _ L1 w20 (az.Own.at (T3.out.1.all _ List.mem_cons_self)) (az.Own.at E3.out.1) HLn.out.1
  go_wp2_with fail
  refine C21.mono ?_
  rintro e21 w21 ⟨rfl,g⟩
  have T4:Hid (Rws feR 122 w21 [(b8,.slice plx L1.length clx,L1),(b5,.slice plc L2.length clc,L2),(b4,.slice pla L1.length cla,L1)]∧Rws sdR 64 w21 [(b9,.slice plz L3.length clz,L3),(b7,.slice ply L4.length cly,L4),(b6,.slice pld L3.length cld,L3)]∧thR.At w21 (.slice pt ts.length ct) ts∧w3.grownBy w21 none∧w.grownBy w21 none):=⟨T3.out.1.keep g,T3.out.2.1.keep g,T3.out.2.2.1.keep g,ae T3.out.2.2.2.1 g,ae T3.out.2.2.2.2 g⟩
  have E4:Hid (feR.Own 122 w21 0 (.slice pdp L1.length cdp) L1∧feR.Own 122 w21 0 (.slice pdq L2.length cdq) L2∧sdR.Own 64 w21 0 (.slice pds L3.length cds) L3∧sdR.Own 64 w21 0 (.slice pdt L4.length cdt) L4):=⟨aw E3.out.1 g,aw E3.out.2.1 g,aw E3.out.2.2.1 g,aw E3.out.2.2.2 g⟩
  clear C21 g T3 E3
  have C22:=jx _ _ L3 w21 (az.Own.at (T4.out.2.1.all _ List.mem_cons_self)) (az.Own.at E4.out.2.2.1) (rL E4.out.2.2.1)
  go_wp2_with fail
  refine C22.mono ?_
  rintro e22 w22 ⟨rfl,g⟩
  have T5:Hid (Rws feR 122 w22 [(b8,.slice plx L1.length clx,L1),(b5,.slice plc L2.length clc,L2),(b4,.slice pla L1.length cla,L1)]∧Rws sdR 64 w22 [(b9,.slice plz L3.length clz,L3),(b7,.slice ply L4.length cly,L4),(b6,.slice pld L3.length cld,L3)]∧thR.At w22 (.slice pt ts.length ct) ts∧w3.grownBy w22 none∧w.grownBy w22 none):=⟨T4.out.1.keep g,T4.out.2.1.keep g,T4.out.2.2.1.keep g,ae T4.out.2.2.2.1 g,ae T4.out.2.2.2.2 g⟩
  have E5:Hid (feR.Own 122 w22 0 (.slice pdp L1.length cdp) L1∧feR.Own 122 w22 0 (.slice pdq L2.length cdq) L2∧sdR.Own 64 w22 0 (.slice pds L3.length cds) L3∧sdR.Own 64 w22 0 (.slice pdt L4.length cdt) L4):=⟨aw E4.out.1 g,aw E4.out.2.1 g,aw E4.out.2.2.1 g,aw E4.out.2.2.2 g⟩
  clear C22 g T4 E4
  clear E5
  obtain⟨Q,hQ⟩:=Qe (w22.alloc (.cells #[.slice pla L1.length cla,.slice plc L2.length clc,.slice plx L1.length clx] 27))
  have GQ:w22.grownBy Q none:=by rw[hQ];exact QG
  have HQb:Q.heap[w22.heap.size]?=some (.cells #[.slice pla L1.length cla,.slice plc L2.length clc,.slice plx L1.length clx] 27 (0,0)):=by rw[hQ];exact ak _ _ _
  have C30:=uH (n:=3) (w0:=w) (w:=Q) (g:=w22.heap.size) (c:=3) (ae T5.out.2.2.2.2 GQ) (T5.out.1.keep GQ) (fun a ha=>by
   have hB:=HB.out
   simp only[List.mem_cons,List.not_mem_nil,or_false] at ha
   rcases ha with rfl | rfl | rfl <;> (show w.heap.size≤_;omega)) rfl (by decide) (by decide) (fun j a ha=>by
   rcases j with _ | _ | _ | j
   ·cases ha;exact(aa HQb 0).trans rfl
   ·cases ha;exact(aa HQb 1).trans rfl
   ·cases ha;exact(aa HQb 2).trans rfl
   ·simp at ha)
  rw[hQ] at C30
  have HD30:Hid (Rws sdR 64 Q [(b9,.slice plz L3.length clz,L3),(b7,.slice ply L4.length cly,L4),(b6,.slice pld L3.length cld,L3)]):=T5.out.2.1.keep GQ
  clear GQ HQb
  go_wp2_with fail
  refine C30.mono ?_
  rintro e30 w30 ⟨rfl,g30,k30⟩
  rw[←hQ] at k30
  have T9:Hid (Rws sdR 64 w30 [(b9,.slice plz L3.length clz,L3),(b7,.slice ply L4.length cly,L4),(b6,.slice pld L3.length cld,L3)]∧w.grownBy w30 none):=⟨⟨fun a ha=>k30 (by decide) (HD30.out.all a ha),HD30.out.ap⟩,g30⟩
  clear C30 g30 k30 hQ HD30 T5
  obtain⟨Q2,hQ⟩:=Qe (w30.alloc (.cells #[.slice pld L3.length cld,.slice ply L4.length cly,.slice plz L3.length clz] 30))
  have GQ:w30.grownBy Q2 none:=by rw[hQ];exact QG
  have HQb:Q2.heap[w30.heap.size]?=some (.cells #[.slice pld L3.length cld,.slice ply L4.length cly,.slice plz L3.length clz] 30 (0,0)):=by rw[hQ];exact ak _ _ _
  have C31:=ub (n:=3) (w0:=w) (w:=Q2) (g:=w30.heap.size) (c:=3) (ae T9.out.2 GQ) (T9.out.1.keep GQ) (fun a ha=>by
   have hB:=HB.out
   simp only[List.mem_cons,List.not_mem_nil,or_false] at ha
   rcases ha with rfl | rfl | rfl <;> (show w.heap.size≤_;omega)) rfl (by decide) (by decide) (fun j a ha=>by
   rcases j with _ | _ | _ | j
   ·cases ha;exact(aa HQb 0).trans rfl
   ·cases ha;exact(aa HQb 1).trans rfl
   ·cases ha;exact(aa HQb 2).trans rfl
   ·simp at ha)
  rw[hQ] at C31
  clear hQ GQ HQb
  go_wp2_with fail
  refine C31.mono ?_
  rintro e31 w31 ⟨rfl,g31,-⟩
  clear C31
  go_wp2_with fail
  go_ret
  exact⟨rfl,g31⟩
end Go.Proofs.YtjmepebbcnhalaaGreat
namespace Go.Proofs.YtjmepebbcnhalaaGreat
open Go.ChangeShapes Go.WideShapes Go.ChangeAt Go.RowKit Go.Deep
variable {p:Pl} {es gs:List Ent} {r n k:Int} {cd:Int→Hd×List Pt} {ts:List Th} {pf:Th→Fe} {mf:Fe→Th→Fe} {me:Th→Int} {w:World} {v:Value} {base fuel:Nat} {sp:Nat→Bool} {held:Bool} {P:Program}

theorem Do:Tryz.prog.bytesOf 120=88:=by kernel_rfl
theorem Bg {α:Type} [Inhabited α] (R:az α) (Q:α→Prop) (b:Nat) {T E:TypeId} (hu:Tryz.prog.underlying T=some (.slice E)) (hk:Tryz.prog.cellsOf E=R.k) (hb:Tryz.prog.bytesOf E=b) {H:Type} {enc:TypeId×Value→H} {w:World} {base:Nat} {sp:Nat→Bool} {held:Bool} (hc:∀ {fuel:Nat} {l:List Value} {x:DataW H×List MemPlace},l.length=R.k→DataW.trod enc Tryz.prog w base sp held fuel E l=some x→∃ e,l=R.enc e∧Q e) {fuel:Nat} {v:Value} {x:DataW H×List MemPlace} (h:DataW.trod enc Tryz.prog w base sp held fuel T [v]=some x) (hz:∀ n∈x.1.weights Tryz.prog T,n≤reachBytes):∃ l,R.At w v l∧(∀ e∈l,Q e)∧l.length*b≤reachBytes:=by
 rcases open_slice hu h with ⟨hcs,_⟩ | ⟨a,len,cp,m,f,D,Pl,hcs,_,hl,hm,hmm,hxx,hx⟩
 ·simp at hcs
  subst hcs
  exact⟨[],az.At.nil R w,fun e he=>(List.not_mem_nil he).elim,by simp⟩
 ·simp at hcs
  subst hcs
  rw[hk] at hx
  have hnm:len≤m:=by rw[hmm];split <;> omega
  have hp:∀ i,i<len→∃ e:α,Q e∧∀ k u,(R.enc e)[k]?=some u→w.cell? ((a.add (i*R.k)).add k)=some u:=fun i hi=>by
   obtain⟨cs',h1,h2⟩:=hx i (by omega)
   obtain⟨_,hlen,hcc⟩:=World.cells?_some h1
   obtain⟨e,he,hQ⟩:=hc hlen h2
   subst he
   refine⟨e,hQ,fun k y hk'=>?_⟩
   have hk4:k<R.k:=by have:=(Qh hk').1;rwa [R.hk] at this
   rw[hcc k hk4]
   exact hk'
  obtain⟨F,hF⟩:=choose_lt (α:=α) hp
  have hln:((List.range len).map F).length=len:=by simp
  refine⟨(List.range len).map F,⟨some a,cp,by rw[hln],by rw[hln];exact Ql hl hm,fun h0=>?_⟩,fun e he=>?_,?_⟩
  ·have h0':0<len:=by rwa [hln] at h0
   obtain⟨v0,hv0⟩:∃ v0,(R.enc (F 0))[0]?=some v0:=⟨_,Qg (by rw[R.hk];exact R.hp)⟩
   have c0:=(hF 0 h0').2 0 _ hv0
   have ex:(a.add (0*R.k)).add 0=a:=by simp[Addr.add]
   rw[ex] at c0
   have pl:=fQ c0
   refine⟨a.block,a.off,by rw[←pl],fun j e he=>?_⟩
   have hj:j<len:=by have:=(Qh he).1;rwa [hln] at this
   obtain rfl:e=F j:=by simp[hj] at he;exact he.symm
   intro k u hk'
   have:=(hF j hj).2 k u hk'
   rw[mD pl,pl,de,←Nat.add_assoc] at this
   exact this
  ·obtain⟨i,hi,rfl⟩:=List.mem_map.1 he
   exact(hF i (List.mem_range.1 hi)).1
  ·have hbz:=hz ((len+(m - len))*b) (by rw[hxx];simp[DataW.weights,hu,hb])
   rw[hln]
   exact Ql (Nat.mul_le_mul_right _ (by omega)) hbz
theorem um {H:Type} {enc:TypeId×Value→H} {x:DataW H×List MemPlace} (h:DataW.trod enc Tryz.prog w base sp held fuel 26 [v]=some x) (hz:∀ n∈x.1.weights Tryz.prog 26,n≤reachBytes):∃ ts,thR.At w v ts∧(ts.length+2)*88≤140737488355328:=by
 haveI:Inhabited Th:=⟨⟨0,0,0,0,0,0,0,0,0,0,false⟩⟩
 obtain⟨ts,h1,_,h3⟩:=Bg thR (fun _=>True) 88 Tryz.underlying26 Fz Do (fun a b=>by obtain⟨t,e⟩:=sc a b;exact⟨t,e,trivial⟩) h hz
 unfold reachBytes at h3
 exact⟨ts,h1,by omega⟩
set_option maxRecDepth 100000
theorem lB (os:Os) (started:os.Started) (H:Type) (enc:TypeId×Value→H) :
  ReturnsInHanded {} Tryz.checked os 4 .any (Rows.viewCallsSpec.pre6 enc Tryz.prog Tryz.f4 Rows.viewCallsRow.domain false) (Rows.viewCallsSpec.post enc Tryz.prog Tryz.f4 false true false false):=by
 refine returnsInHanded_of_change_sized (C:=Tryz.checked) Tryz.own started (by kernel_rfl) Tryz.func4
  (ChangeSpec.witness6 (enc:=enc) (C:=Tryz.checked) false ⟨#[],#[.agg #[.slice none 0 0,.slice none 0 0,.bool false],.slice none 0 0,.int .i64 0,.int .i64 0],[]⟩ 8 (by kernel_rfl) (by kernel_rfl) (by kernel_rfl) (by kernel_rfl)) ?_
 intro W base args ds gs before hval0 hW hcnd hsz _
 have hval:∀ (j:Nat) t v,Tryz.f4.params[j]?=some t→args[j]?=some v→Value.okWide Tryz.prog W .any base t v:=hval0
 have hW':=hW
 obtain⟨p,q,hA0,hV,rfl,hfz,hnd⟩:=hW
 have hA:DataW.TrodAll enc Tryz.prog W 0 (fun _=>true) true Tryz.f4.params.toList args.toList ds p:=hA0
 have hS:(DataW.weightsEach Tryz.prog (Tryz.f4.params.toList++Rows.viewCallsSpec.plain.varTypes Tryz.prog) (ds++gs)).all (·≤reachBytes)=true:=hsz
 rw[Tryz.params4] at hA hval hS
 obtain⟨v0,vs0,d0,ds0,p0,q0,hargs,rfl,rfl,h0,r0⟩:=trodAll_cons hA
 obtain⟨v1,vs1,d1,ds1,p1,q1,rfl,rfl,rfl,h1,r1⟩:=trodAll_cons r0
 obtain⟨v2,vs2,d2,ds2,p2,q2,rfl,rfl,rfl,h2,r2⟩:=trodAll_cons r1
 obtain⟨v3,vs3,d3,ds3,p3,q3,rfl,rfl,rfl,h3,r3⟩:=trodAll_cons r2
 obtain⟨rfl,rfl,rfl⟩:=trodAll_nil r3
 obtain rfl:args=#[v0,v1,v2,v3]:=by cases args;simp_all
 obtain⟨rfl,rfl⟩:=trodVars_none hV
 have k0:=h0
 have lt0:∀ x∈p0,x.block<W.heap.size:=by obtain⟨m,hm⟩:=k0;exact DataW.trod_lt m _ _ _ hm
 obtain⟨vc,vm,op,cs,ms,rfl,F0⟩:=zJ (hval 0 25 v0 rfl rfl) h0 (fun n hn=>by simpa using List.all_eq_true.1 hS n (DataW.weights_mem_each (j:=0) rfl rfl n hn))
 have k1:=h1
 have lt1:∀ x∈p1,x.block<W.heap.size:=by obtain⟨m,hm⟩:=k1;exact DataW.trod_lt m _ _ _ hm
 obtain⟨sa1,sl1,sc1,rfl⟩:=okWide_slice Tryz.underlying26 (hval 1 26 v1 rfl rfl)
 obtain⟨ts,T1,B1⟩:∃ ts,thR.At W (.slice sa1 sl1 sc1) ts∧(ts.length+2)*88≤140737488355328:=by obtain⟨fuel,hf⟩:=h1;exact um hf (fun n hn=>by simpa using List.all_eq_true.1 hS n (DataW.weights_mem_each (j:=1) rfl rfl n hn))
 obtain⟨a2,rfl,rfl,rfl,w2⟩:=open_int Tryz.underlying3 (hval 2 3 v2 rfl rfl) h2
 obtain⟨a3,rfl,rfl,rfl,w3⟩:=open_int Tryz.underlying3 (hval 3 3 v3 rfl rfl) h3
 clear hA0 hval0
 refine(oR vc vm _ op cs ms ts a2 a3 W F0 T1 B1).mono fun e W' ⟨he,hg⟩=>?_
 subst he
 have bel:=lM hg
 exact⟨_,rfl,_,_,_,[],_,[],hW',trodAll_mk1 (shut_bool Tryz.underlying4 _),(trodAll_cons_mk (Below.trod Tryz.laidOut (by kernel_rfl) (of_decide_eq_true (by kernel_rfl)) k0 bel lt0) (trodAll_cons_mk (Below.trod Tryz.laidOut (by kernel_rfl) (of_decide_eq_true (by kernel_rfl)) k1 bel lt1) (trodAll_cons_mk (shut_int Tryz.underlying3 w2) (trodAll_cons_mk (shut_int Tryz.underlying3 w3) trodAll_mk0)))),rfl,bel.frame _,fun h=>by cases h⟩
end Go.Proofs.YtjmepebbcnhalaaGreat
namespace Go.Proofs.YtjmepebbcnhalaaGreat
open Go.WideShapes
variable {p:Pl} {es gs:List Ent} {r n k:Int} {cd:Int→Hd×List Pt} {ts:List Th} {pf:Th→Fe} {mf:Fe→Th→Fe} {me:Th→Int} {w:World} {v:Value} {base fuel:Nat} {sp:Nat→Bool} {held:Bool} {P:Program}
theorem qO {f:FuncId} {fn:Func} {s:ChangeSpec} {c:OpenClaim} (h0:(c.wf (OpenSpec.ofChange s))=true) (h1:(laidOutB P)=true) (h2:(mapsRowed P)=true) (h3:(fn.params.all (P.readableRec ·))=true) (h4:(namedTie P c.named s.vars)=true) (h5:((c.stops == []))=true) (h6:((P.stops == []))=true) (h7:((c.knobs == []))=true) (h8:((P.stopKnobs == []))=true) (h9:((c.inPlace == P.inPlace f))=true) (h10:((c.unfollowed == P.unfollowed f))=true) (h11:((c.recurses == P.recurses f))=true) (h12:((c.named == P.varsNamed f))=true) (h13:((c.maps == (fn.params.toList++s.plain.varTypes P).any (P.mapsRec ·)))=true) (h14:((c.ifaces == (fn.params.toList++s.plain.varTypes P).any (P.ifacesRec ·)))=true) (h15:((c.mapsOut == P.mapsAmong fn.resultTypes.toList))=true) (h16:((c.loops == (fn.params.toList++s.plain.varTypes P).any (P.loopsFrom ·)))=true) (h17:((c.wideKeys == (fn.params.toList++s.plain.varTypes P++fn.resultTypes.toList).any (P.wideKeysFrom ·)))=true) (h18:(s.vars.all (P.varReadable ·))=true) (h19:(fn.resultTypes.all (fun t=>P.readableRec t && decide (t<P.types.size)))=true) (h20:((c.ifacesOut == fn.resultTypes.toList.any (P.ifacesRec ·)))=true) (h21:((c.loopsOut == fn.resultTypes.toList.any (P.loopsFrom ·)))=true) (h22:((c.plainKeys == P.plainKeys))=true) (h23:(c.shortTexts.isNone)=true) (h24:(P.stopsHeard)=true) (h25:(P.mayEnter)=true) (h26:((c.lifted == P.liftsFinal))=true) (h27:((P.make == some c.make))=true) (h28:((c.kinds == (if c.domain.isEmpty then [] else fn.params.toList.map fun t=>match P.underlying t with | some (.int k)=>some k | _=>none)))=true) (h29:((c.pinned == c.pinnedBy))=true) (h30:((c.veiled == (fn.params.toList++s.plain.varTypes P++fn.resultTypes.toList).any (P.veiledRec ·)))=true) (h31:(c.veiledFits P fn.params.toList (fn.params.toList++s.plain.varTypes P++fn.resultTypes.toList))=true):joinedFacts P f fn s c=true:=by
 unfold joinedFacts
 simp only[Bool.and_eq_true]
 exact⟨⟨⟨⟨⟨⟨⟨⟨⟨⟨⟨⟨⟨⟨⟨⟨⟨⟨⟨⟨⟨⟨⟨⟨⟨⟨⟨⟨⟨⟨⟨h0,h1⟩,h2⟩,h3⟩,h4⟩,h5⟩,h6⟩,h7⟩,h8⟩,h9⟩,h10⟩,h11⟩,h12⟩,h13⟩,h14⟩,h15⟩,h16⟩,h17⟩,h18⟩,h19⟩,h20⟩,h21⟩,h22⟩,h23⟩,h24⟩,h25⟩,h26⟩,h27⟩,h28⟩,h29⟩,h30⟩,h31⟩
theorem qB:(Rows.viewCallsRow.wf (OpenSpec.ofChange Rows.viewCallsSpec))=true:=by kernel_rfl
theorem qG:(laidOutB Tryz.prog)=true:=by kernel_rfl
theorem rp:(mapsRowed Tryz.prog)=true:=by kernel_rfl
theorem rh:(Tryz.f4.params.all (Tryz.prog.readableRec ·))=true:=by kernel_rfl
theorem rb:(namedTie Tryz.prog Rows.viewCallsRow.named Rows.viewCallsSpec.vars)=true:=by kernel_rfl
theorem qP:((Rows.viewCallsRow.stops == []))=true:=by kernel_rfl
theorem rH:((Tryz.prog.stops == []))=true:=by kernel_rfl
theorem rO:((Rows.viewCallsRow.knobs == []))=true:=by kernel_rfl
theorem rG:((Tryz.prog.stopKnobs == []))=true:=by kernel_rfl
theorem rv:((Rows.viewCallsRow.inPlace == Tryz.prog.inPlace 4))=true:=by kernel_rfl
theorem oP:((Rows.viewCallsRow.unfollowed == Tryz.prog.unfollowed 4))=true:=by kernel_rfl
theorem pP:((Rows.viewCallsRow.recurses == Tryz.prog.recurses 4))=true:=by kernel_rfl
theorem pI:((Rows.viewCallsRow.named == Tryz.prog.varsNamed 4))=true:=by kernel_rfl
theorem pw:((Rows.viewCallsRow.maps == (Tryz.f4.params.toList++Rows.viewCallsSpec.plain.varTypes Tryz.prog).any (Tryz.prog.mapsRec ·)))=true:=by kernel_rfl
theorem pY:((Rows.viewCallsRow.ifaces == (Tryz.f4.params.toList++Rows.viewCallsSpec.plain.varTypes Tryz.prog).any (Tryz.prog.ifacesRec ·)))=true:=by kernel_rfl
theorem pU:((Rows.viewCallsRow.mapsOut == Tryz.prog.mapsAmong Tryz.f4.resultTypes.toList))=true:=by kernel_rfl
theorem oW:((Rows.viewCallsRow.loops == (Tryz.f4.params.toList++Rows.viewCallsSpec.plain.varTypes Tryz.prog).any (Tryz.prog.loopsFrom ·)))=true:=by kernel_rfl
theorem pd:((Rows.viewCallsRow.wideKeys == (Tryz.f4.params.toList++Rows.viewCallsSpec.plain.varTypes Tryz.prog++Tryz.f4.resultTypes.toList).any (Tryz.prog.wideKeysFrom ·)))=true:=by kernel_rfl
theorem pz:(Rows.viewCallsSpec.vars.all (Tryz.prog.varReadable ·))=true:=by kernel_rfl
theorem pW:(Tryz.f4.resultTypes.all (fun t=>Tryz.prog.readableRec t && decide (t<Tryz.prog.types.size)))=true:=by kernel_rfl
theorem oV:((Rows.viewCallsRow.ifacesOut == Tryz.f4.resultTypes.toList.any (Tryz.prog.ifacesRec ·)))=true:=by kernel_rfl
theorem pX:((Rows.viewCallsRow.loopsOut == Tryz.f4.resultTypes.toList.any (Tryz.prog.loopsFrom ·)))=true:=by kernel_rfl
theorem pE:((Rows.viewCallsRow.plainKeys == Tryz.prog.plainKeys))=true:=by kernel_rfl
theorem pV:(Rows.viewCallsRow.shortTexts.isNone)=true:=by kernel_rfl
theorem pD:(Tryz.prog.stopsHeard)=true:=by kernel_rfl
theorem pJ:(Tryz.prog.mayEnter)=true:=by kernel_rfl
theorem pK:((Rows.viewCallsRow.lifted == Tryz.prog.liftsFinal))=true:=by kernel_rfl
theorem oU:((Tryz.prog.make == some Rows.viewCallsRow.make))=true:=by kernel_rfl
theorem pT:((Rows.viewCallsRow.kinds == (if Rows.viewCallsRow.domain.isEmpty then [] else Tryz.f4.params.toList.map fun t=>match Tryz.prog.underlying t with | some (.int k)=>some k | _=>none)))=true:=by kernel_rfl
theorem ph:((Rows.viewCallsRow.pinned == Rows.viewCallsRow.pinnedBy))=true:=by kernel_rfl
theorem pR:((Rows.viewCallsRow.veiled == (Tryz.f4.params.toList++Rows.viewCallsSpec.plain.varTypes Tryz.prog++Tryz.f4.resultTypes.toList).any (Tryz.prog.veiledRec ·)))=true:=by kernel_rfl
theorem oO:(Rows.viewCallsRow.veiledFits Tryz.prog Tryz.f4.params.toList (Tryz.f4.params.toList++Rows.viewCallsSpec.plain.varTypes Tryz.prog++Tryz.f4.resultTypes.toList))=true:=by kernel_rfl
theorem lC:joinedFacts Tryz.prog 4 Tryz.f4 Rows.viewCallsSpec Rows.viewCallsRow=true:=qO qB qG rp rh rb qP rH rO rG rv oP pP pI pw pY pU oW pd pz pW oV pX pE pV pD pJ pK oU pT ph pR oO
end Go.Proofs.YtjmepebbcnhalaaGreat
