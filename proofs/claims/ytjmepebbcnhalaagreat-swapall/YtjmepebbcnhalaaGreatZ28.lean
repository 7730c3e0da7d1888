import Derived.Test.YtjmepebbcnhalaaGreatZ27
namespace Go.Proofs.YtjmepebbcnhalaaGreat
open Tryz
set_option maxRecDepth 100000
set_option maxHeartbeats 4000000
open Go.RowKit Go.Shelf
variable {wh:Pt} {f:Fe} {ho n r:Int} {w:World} {g off c i base m:Nat} {cd:Int→Hd×List Pt} {ts:List Th} {F:List Fe} {R:List Rw} {e:Se} {p:Pl} {gs:List Ent}
def kD (kd:Int) (t:Th):Bool:=decide (t.place=4) && decide (kd=1)
theorem tL (ok:Nat→Prop) (r:Nat) (v:Value) (p:Pl) (gs:List Ent) (t:Th) (w:World) (B:RD ok w r v p gs):Calls prog 263 #[.pointer (some ⟨r,0,none⟩),thv t] w fun e w'=>e=.returned (.bool (kD (atC p gs t.card).1.kd t))∧w.grownBy w' none:=by
 obtain⟨V,hV⟩:=Qe (w.alloc (.cells #[.int .i64 t.card,.int .i64 t.owner,.int .u8 t.place,.int .i64 t.stamp,.int .i64 t.hurt,.int .i64 t.m0,.int .i64 t.m1,.int .i64 t.m2,.int .i64 t.m3,.int .i64 t.done,.bool t.fresh] 120));have HV:QH (ThB V w.heap.size t∧w.grownBy V none):=⟨by rw[hV];exact aj _ _ _,by rw[hV];exact QG⟩
 have C2:=nh ok r v p gs t.card V (B.keep HV.o.2);unfold iq at C2;obtain⟨h,hh⟩:=Qe ((atC p gs t.card).1);obtain⟨x,hx⟩:=Qe (atX p gs t.card);rw[←hh,←hx] at C2;rw[←hh];unfold cv at C2;unfold thv;clear B hh hx;go_enter func263,ntmps263;go_upto_region 1 with fail;rw[←hV];obtain⟨n0,hn0⟩:=Qe (w.heap.size);rw[←hn0] at HV ⊢;clear hV hn0;obtain⟨b0,b1,b2,b3,b4,b5,b6,b7,b8,b9,b10⟩:=dD HV.o.1;go_wp2_with fail;refine C2.mono ?_;rintro e2 w2 ⟨u,rfl,ou,g2⟩;obtain⟨pu,cu,mu,rfl⟩:∃ p c m,u=.slice p m c:=by obtain⟨p,c,e,_⟩:=bZ ou;exact⟨p,c,_,e⟩
 obtain⟨Z,hZ⟩:=Qe (w2.alloc (.cells #[.string h.nm,.int .u8 h.su,.int .u8 h.kd,.int .i64 h.co,.int .i64 h.po,.int .i64 h.he,.int .u16 h.tr,.bool h.tk,.slice pu mu cu] 111))
 have HZ:QH (CdK Z w2.heap.size h (.slice pu mu cu)∧ThB Z n0 t∧w.grownBy Z none):=by
  have g:w2.grownBy Z none:=by rw[hZ];exact QG
  exact⟨by rw[hZ];exact aj _ _ _,ag g (ag g2 HV.o.1 (by simp)) (by simp),aa (aa HV.o.2 g2) g⟩
 clear C2 ou g2 b0 b1 b2 b3 b4 b5 b6 b7 b8 b9 b10;go_upto_region 2 with fail;rw[←hZ];obtain⟨nc,hnc⟩:=Qe (w2.heap.size);rw[←hnc] at HZ ⊢;clear hZ hnc;obtain⟨b0,b1,b2,b3,-⟩:=dD HZ.o.2.1;have k2:Z.cell? ⟨nc,2,none⟩=some (.int .u8 h.kd):=(ae HZ.o.1 2).trans rfl;by_cases h4:t.place=4
 ·have e1:(t.place == 4)=true:=by rw[h4];rfl
  by_cases h1:h.kd=1
  ·have e2:(h.kd == 1)=true:=(by rw[h1];rfl);have HU:QH (kD h.kd t=true):=(by show _=_;unfold kD;rw[Qy h4,Qy h1];rfl);clear h4 h1;go_wp2_with fail;go_ret;exact⟨by rw[HU.o] <;> rfl,HZ.o.2.2⟩
  ·have e2:(h.kd == 1)=false:=(by simpa using h1);have HU:QH (kD h.kd t=false):=(by show _=_;unfold kD;rw[Qx h1,Qcu]);clear h4 h1;go_wp2_with fail;go_ret;exact⟨by rw[HU.o] <;> rfl,HZ.o.2.2⟩
 ·have e1:(t.place == 4)=false:=by simpa using h4
  have HU:QH (kD h.kd t=false):=by show _=_;unfold kD;rw[Qx h4,Qai]
  clear h4;go_wp2_with fail;go_ret;exact⟨by rw[HU.o] <;> rfl,HZ.o.2.2⟩
theorem sX {own:Bool} {kd:Int} (h:wh.wm=4):bR wh own kd f ho=own:=by unfold bR;rw[if_pos h]
theorem rn {own:Bool} {kd:Int} (h:¬wh.wm=4) (hk:¬kd=1):bR wh own kd f ho=false:=by unfold bR;rw[if_neg h,if_pos hk]
def qL (wm:Int) (wh:Pt) (own:Bool) (f:Fe) (ho:Int):Bool:=if wm=5 then decide (f.ho=ho) else if wm=8 then decide (f.ho=ho) && !own else if wm=6 then !decide (f.ho=ho) else if wm=7 then true else if wm=9 then decide (f.su=wh.su) else if wm=10 then gH f.tr wh.tr else false
theorem lX {own:Bool} {kd:Int} (h:¬wh.wm=4) (hk:kd=1):bR wh own kd f ho=qL wh.wm wh own f ho:=by unfold bR qL;rw[if_neg h,if_neg (by simpa using hk)]
theorem ed {n:Nat} {X:List Fe} (h:feR.At w (.slice (some ⟨g,off,none⟩) n c) X) {i:Nat} {x:Fe} (hx:X[i]?=some x):w.rangeAt g (off+i*5) (fec x):=by
 obtain⟨hi,e⟩:=Qh hx;obtain⟨g',off',cap,e1,r⟩:=dh h hi;injection e1 with e1 _ _;injection e1 with e1;injection e1 with ea eb;rw[ea,eb,←e];exact r
theorem xN (ok:Nat→Prop) (r:Nat) (v:Value) (p:Pl) (gs:List Ent) (vt vf:Value) (ts:List Th) (F:List Fe) (s:Sd) (j z:Nat) (t:Th) (f g:Fe) (own:Bool) (w:World) (B:RD ok w r v p gs) (A:thR.At w vt ts) (AF:feR.At w vf F) (hj:ts[j]?=some t) (h4:t.place=4) (hf:F[j]?=some f) (hg:F[z]?=some g) (hz:s.th=(z:Int)+1) (ho:(((j:Int)+1) == s.th)=own) (hl:ts.length≤2048∧F.length≤2048):Calls prog 217 #[.pointer (some ⟨r,0,none⟩),vt,vf,sdv s,.int .i64 ((j:Int)+1)] w fun e w'=>e=.returned (.bool (bR s.wh own (atC p gs t.card).1.kd f g.ho))∧w.grownBy w' none:=by
 obtain⟨pt,ct,rfl⟩:=A.form;obtain⟨pf,cf,rfl⟩:=AF.form;have hjl:j<ts.length:=(Qh hj).1;have hjf:j<F.length:=(Qh hf).1;have hzf:z<F.length:=(Qh hg).1;obtain⟨V,hV⟩:=Qe (w.alloc (.cells #[.int .i64 s.th,.int .i64 s.pl,.int .u8 s.wh.wn,.int .u8 s.wh.vb,.int .u8 s.wh.wm,.int .i64 s.wh.ct,.int .u8 s.wh.su,.int .u8 s.wh.tr,.int .u8 s.wh.mr,.string s.wh.nm] 64))
 have HV:QH (SdB V w.heap.size s∧w.grownBy V none∧RD ok V r v p gs∧thR.At V (.slice pt ts.length ct) ts∧feR.At V (.slice pf F.length cf) F):=by
  have gr:w.grownBy V none:=by rw[hV];exact QG
  exact⟨by rw[hV];exact aj _ _ _,gr,B.keep gr,A.keep gr,AF.keep gr⟩
 have HJ:QH (ts[j]?=some t∧F[j]?=some f∧F[z]?=some g∧t.place=4):=⟨hj,hf,hg,h4⟩
 obtain⟨kd,hkd⟩:=Qe ((atC p gs t.card).1.kd);have CU:=tL ok r v p gs t V HV.o.2.2.1;rw[←hkd] at CU;rw[show kD kd t=decide (kd=1) from by unfold kD;rw[Qy h4,Qah]] at CU;rw[←hkd];have j1:((j:Int))<(ts.length:Int):=Int.ofNat_lt.2 hjl;have j2:((j:Int))<(F.length:Int):=Int.ofNat_lt.2 hjf;have z1:((z:Int))<(F.length:Int):=Int.ofNat_lt.2 hzf;have wj:wrap64 (j:Int)=(j:Int):=by unfold wrap64;omega
 have wz:wrap64 (z:Int)=(z:Int):=by unfold wrap64;omega
 have wj2:IntKind.i64.wrap (j:Int)=(j:Int):=by rw[IntWalk.i64_in _ (by omega)]
 have wz2:IntKind.i64.wrap (z:Int)=(z:Int):=by rw[IntWalk.i64_in _ (by omega)]
 obtain⟨gT,oT,cT,eT,-⟩:=bz A hjl;injection eT with eT eT2 eT3;clear eT2 eT3;subst eT;obtain⟨gF,oF,cF,eF,-⟩:=dh AF hjf;injection eF with eF eF2 eF3;clear eF2 eF3;subst eF;have Hz:QH (s.th=(z:Int)+1):=hz;unfold sdv;rw[hz] at ho ⊢;unfold thv at CU;clear B A AF hj h4 hf hg hl hkd hjl hjf hzf hz;go_enter func217,ntmps217;go_upto_region 1 with fail;rw[show w.alloc (.cells #[.int .i64 ((z:Int)+1),.int .i64 s.pl,.int .u8 s.wh.wn,.int .u8 s.wh.vb,.int .u8 s.wh.wm,.int .i64 s.wh.ct,.int .u8 s.wh.su,.int .u8 s.wh.tr,.int .u8 s.wh.mr,.string s.wh.nm] 64)=V from by rw[hV,Hz.o]];obtain⟨n0,hn0⟩:=Qe (w.heap.size);rw[←hn0] at HV ⊢;clear hV hn0;obtain⟨s0,-,-,-,s4,-,s6,s7,-⟩:=aQ HV.o.1;rw[Hz.o] at s0;by_cases w4:s.wh.wm=4
 ·have e4:(s.wh.wm == 4)=true:=by rw[w4];rfl
  have HR:QH (bR s.wh own kd f g.ho=own):=sX w4;clear w4;go_wp2_with fail;go_ret;exact⟨by rw[HR.o] <;> rfl,HV.o.2.1⟩
 ·have e4:(s.wh.wm == 4)=false:=by simpa using w4
  obtain⟨t0,t1,t2,t3,t4,t5,t6,t7,t8,t9,t10⟩:=aZ (eJ HV.o.2.2.2.1 HJ.o.1);by_cases hk:kd=1
  ·rw[Qy hk] at CU;have HR:QH (bR s.wh own kd f g.ho=qL s.wh.wm s.wh own f g.ho):=lX w4 hk;clear w4 hk;go_wp2_with fail;refine CU.mono ?_;rintro e1 w1 ⟨rfl,g1⟩;obtain⟨Y,hY⟩:=Qe (w1.alloc (.cells #[.int .i64 f.ho,.int .u8 f.su,.int .u16 f.tr,.int .i64 f.po,.int .i64 f.he] 122))
   have HY:QH (FeB Y w1.heap.size f∧SdB Y n0 s∧w.grownBy Y none∧feR.At Y (.slice (some ⟨gF,oF,none⟩) F.length cf) F):=by
    have gr:w1.grownBy Y none:=(by rw[hY];exact QG);exact⟨by rw[hY];exact aj _ _ _,ag gr (ag g1 HV.o.1 (by simp)) (by simp),aa (aa HV.o.2.1 g1) gr,(HV.o.2.2.2.2.keep g1).keep gr⟩
   obtain⟨f0,f1,f2,f3,f4⟩:=bP (ed (HV.o.2.2.2.2.keep g1) HJ.o.2.1);clear CU g1 t0 t1 t2 t3 t4 t5 t6 t7 t8 t9 t10 s0 s4 s6 s7 e4;go_upto_region 6 with fail;rw[←hY];obtain⟨n1,hn1⟩:=Qe (w1.heap.size);rw[←hn1] at HY ⊢;clear hY hn1 f0 f1 f2 f3 f4;obtain⟨f0,f1,f2,-⟩:=kq HY.o.1;obtain⟨g0,-⟩:=bP (ed HY.o.2.2.2 HJ.o.2.2.1);obtain⟨s0,-,-,-,s4,-,s6,s7,-⟩:=aQ HY.o.2.1;rw[Hz.o] at s0;have HGE:QH (w.grownBy Y none):=HY.o.2.2.1;obtain⟨wm,hwm⟩:=Qe (s.wh.wm);rw[←hwm] at HR s4;clear hwm HY HV;by_cases w5:wm=5
   ·subst w5;have HQ:QH (bR s.wh own kd f g.ho=(f.ho == g.ho)):=(by show _=_;rw[HR.o];rfl);go_wp2_with fail;go_ret;exact⟨by rw[HQ.o] <;> rfl,HGE.o⟩
   ·have e5:(wm == 5)=false:=(by simpa using w5);by_cases w8:wm=8
    ·subst w8;by_cases q:f.ho=g.ho
     ·have eq:(f.ho == g.ho)=true:=(by rw[q];exact beq_self_eq_true _);have hn:(((j:Int)+1) != ((z:Int)+1))=!own:=(by rw[bne,ho]);have HQ:QH (bR s.wh own kd f g.ho=!own):=(by show _=_;rw[HR.o];show (decide (f.ho=g.ho) && !own)=_;rw[Qy q,Qah]);clear q w5;go_wp2_with fail;go_ret;exact⟨by rw[HQ.o] <;> rfl,HGE.o⟩
     ·have eq:(f.ho == g.ho)=false:=(by simpa using q);have HQ:QH (bR s.wh own kd f g.ho=false):=(by show _=_;rw[HR.o];show (decide (f.ho=g.ho) && !own)=_;rw[Qx q,Qai]);clear q w5;go_wp2_with fail;go_ret;exact⟨by rw[HQ.o] <;> rfl,HGE.o⟩
    ·have e8:(wm == 8)=false:=(by simpa using w8);by_cases w6:wm=6
     ·subst w6;have HQ:QH (bR s.wh own kd f g.ho=(f.ho != g.ho)):=(by show _=_;rw[HR.o];rfl);clear w5 w8;go_wp2_with fail;go_ret;exact⟨by rw[HQ.o] <;> rfl,HGE.o⟩
     ·have e6:(wm == 6)=false:=(by simpa using w6);by_cases w7:wm=7
      ·subst w7;have HQ:QH (bR s.wh own kd f g.ho=true):=(by show _=_;rw[HR.o];rfl);clear w5 w8 w6;go_wp2_with fail;go_ret;exact⟨by rw[HQ.o] <;> rfl,HGE.o⟩
      ·have e7:(wm == 7)=false:=(by simpa using w7);by_cases w9:wm=9
       ·subst w9;have HQ:QH (bR s.wh own kd f g.ho=(f.su == s.wh.su)):=(by show _=_;rw[HR.o];rfl);clear w5 w8 w6 w7;go_wp2_with fail;go_ret;exact⟨by rw[HQ.o] <;> rfl,HGE.o⟩
       ·have e9:(wm == 9)=false:=(by simpa using w9);by_cases w10:wm=10
        ·subst w10;have HQ:QH (bR s.wh own kd f g.ho=gH f.tr s.wh.tr):=(by show _=_;rw[HR.o];rfl);have CH:=jy f.tr s.wh.tr Y;clear w5 w8 w6 w7 w9;go_wp2_with fail;refine CH.mono ?_;rintro e3 w3 ⟨rfl,hw3⟩;rw[hw3];clear hw3 w3 CH;go_wp2_with fail;go_ret;exact⟨by rw[HQ.o] <;> rfl,HGE.o⟩
        ·have e10:(wm == 10)=false:=by simpa using w10
         have HQ:QH (bR s.wh own kd f g.ho=false):=by
          show _=_;rw[HR.o];unfold qL;rw[if_neg w5,if_neg w8,if_neg w6,if_neg w7,if_neg w9,if_neg w10]
         clear w5 w8 w6 w7 w9 w10;go_wp2_with fail;go_ret;exact⟨by rw[HQ.o] <;> rfl,HGE.o⟩
  ·rw[Qx hk] at CU;have HR:QH (bR s.wh own kd f g.ho=false):=rn w4 hk;clear w4 hk;go_wp2_with fail;refine CU.mono ?_;rintro e1 w1 ⟨rfl,g1⟩;have HG1:QH (w.grownBy w1 none):=aa HV.o.2.1 g1;clear CU g1;go_wp2_with fail;go_ret;exact⟨by rw[HR.o] <;> rfl,HG1.o⟩
theorem Tab.ab (h:Tab n cd ts F R) {s:Sd} {ro i:Nat} (hr:ro<R.length) (hs:(R.getD ro Rw.none).nu=s.th) (hi:i<R.length):∃ (j z:Nat) (t:Th) (f g:Fe) (own:Bool),ts[j]?=some t∧t.place=4∧F[j]?=some f∧F[z]?=some g∧s.th=(z:Int)+1∧(((j:Int)+1) == s.th)=own∧(R.getD i Rw.none).nu=(j:Int)+1∧bR s.wh own (cd t.card).1.kd f g.ho=gn R (ay R F) ⟨s,ro⟩ i:=by
 obtain⟨j,t,ht,h4,e⟩:=h.row (show R.getD i Rw.none∈R by rw[aG hi];exact Qab _);obtain⟨z,u,hu,-,e2⟩:=h.row (show R.getD ro Rw.none∈R by rw[aG hr];exact Qab _);have hj:j<F.length:=by rw[←h.len];exact(Qh ht).1
 have hz:z<F.length:=by rw[←h.len];exact(Qh hu).1
 have nj:(R.getD i Rw.none).nu=(j:Int)+1:=by rw[e]
 have nz:(R.getD ro Rw.none).nu=(z:Int)+1:=by rw[e2]
 have hown:(((j:Int)+1) == s.th)=decide (i=ro):=by
  rw[←hs,←nj];by_cases q:i=ro
  ·subst q;rw[Qy rfl];exact beq_self_eq_true _
  ·rw[Qx q];exact Bool.eq_false_iff.2 fun y=>q (ll h.nod hi hr (by simpa using y))
 refine⟨j,z,t,F[j],F[z],decide (i=ro),ht,h4,Qg hj,Qg hz,by rw[←hs,nz],hown,nj,?_⟩;unfold gn
 have p1:(ay R F).getD i Fe.none=F[j]:=by
  unfold ay;rw[gI _ _ _ Rw.none _ hi,nj,toN,aG hj]
 have p2:(ay R F).getD ro Fe.none=F[z]:=by
  unfold ay;rw[gI _ _ _ Rw.none _ hr,nz,toN,aG hz]
 rw[p1,p2,show (R.getD i Rw.none).h.kd=(cd t.card).1.kd from by rw[e]]
theorem sS (hi:i<R.length):(bC R F e).getD i false=gn R F e i:=by
 unfold bC lO;rw[Qa2,Qak,Qd5 hi];rfl
def abK (R:List Rw) (F:List Fe) (e:Se) (k:Nat):List Int:=nk R (bC R F e) k
theorem FR {x:Int} (hi:i<R.length) (h:gn R F e i=true) (hx:(R.getD i Rw.none).nu=x):abK R F e (i+1)=abK R F e i++[x]:=by
 unfold abK;rw[Cp (by rw[sS hi,h]),hx]
theorem GN (hi:i<R.length) (h:gn R F e i=false):abK R F e (i+1)=abK R F e i:=by
 unfold abK;rw[F4 (by rw[sS hi,h])]
theorem Ei (R:List Rw) (F:List Fe) (e:Se) (k:Nat):(abK R F e k).length≤k:=nt _ _ _
theorem jw {p:Option Addr} {l:List Int} (h:bm w base (.slice p m c) l) {j:Nat} (hj:j<l.length):∃ g,p=some ⟨g,0,none⟩∧w.cell? ⟨g,j,none⟩=some (.int .i64 (l.getD j 0)):=by
 obtain⟨g,c',e,_,_,_,_,hc⟩:=eB h (by omega);injection e with e _ _;refine⟨g,e,(hc j (by omega)).1.trans ?_⟩;unfold dt;rw[Qak,Qg hj,Qc1,aG hj]
theorem jX (ok:Nat→Prop) (r:Nat) (v:Value) (p:Pl) (gs:List Ent) (vt vf:Value) (ts:List Th) (F:List Fe) (R:List Rw) (s:Sd) (ro:Nat) (w:World) (B:RD ok w r v p gs) (A:thR.At w vt ts) (AF:feR.At w vf F) (hT:Tab (gs.length:Int) (atC p gs) ts F R) (hr:ro<R.length) (hs:(R.getD ro Rw.none).nu=s.th) (hl:ts.length≤2048):Calls prog 148 #[.pointer (some ⟨r,0,none⟩),vt,vf,sdv s] w fun e w'=>∃ v,e=.returned v∧bm w' w.heap.size v (fC R (bC R (ay R F) ⟨s,ro⟩))∧w.grownBy w' none:=by
 obtain⟨i0,hi,hz0,hz1,hz2⟩:=info_parts linfo3;obtain⟨pt,ct,rfl⟩:=A.form;obtain⟨pf,cf,rfl⟩:=AF.form;obtain⟨V,hV⟩:=Qe (w.alloc (.cells #[.int .i64 s.th,.int .i64 s.pl,.int .u8 s.wh.wn,.int .u8 s.wh.vb,.int .u8 s.wh.wm,.int .i64 s.wh.ct,.int .u8 s.wh.su,.int .u8 s.wh.tr,.int .u8 s.wh.mr,.string s.wh.nm] 64))
 have HV:QH (SdB V w.heap.size s∧w.grownBy V none∧RD ok V r v p gs∧thR.At V (.slice pt ts.length ct) ts∧feR.At V (.slice pf F.length cf) F):=by
  have gr:w.grownBy V none:=by rw[hV];exact QG
  exact⟨by rw[hV];exact aj _ _ _,gr,B.keep gr,A.keep gr,AF.keep gr⟩
 have HT:QH (Tab (gs.length:Int) (atC p gs) ts F R∧ro<R.length∧(R.getD ro Rw.none).nu=s.th∧ts.length≤2048):=⟨hT,hr,hs,hl⟩
 have CO:=nU _ _ _ ts F R V HV.o.2.2.2.1 hT hl;unfold sdv;clear B A AF hT hr hs hl;go_enter func148,ntmps148;go_upto_region 1 with fail;rw[←hV];obtain⟨n0,hn0⟩:=Qe (w.heap.size);have Hn0:QH (n0=w.heap.size):=hn0;rw[←hn0] at HV ⊢;clear hV hn0;go_wp2_with fail;refine CO.mono ?_;rintro e1 w1 ⟨v1,rfl,o1,g1⟩;obtain⟨pl,cl,ev⟩:=bm.form o1;rw[Qa9] at ev;subst ev;have H1:QH (bm w1 V.heap.size (.slice pl R.length cl) (R.map Rw.nu)∧w.grownBy w1 none∧SdB w1 n0 s∧RD ok w1 r v p gs∧thR.At w1 (.slice pt ts.length ct) ts∧feR.At w1 (.slice pf F.length cf) F):=⟨o1,aa HV.o.2.1 g1,ag g1 HV.o.1 (by simp),HV.o.2.2.1.keep g1,HV.o.2.2.2.1.keep g1,HV.o.2.2.2.2.keep g1⟩
 clear CO o1 g1 HV;go_wp2_with fail;go_loopw [9,11] (fun v y wr=>∃ (i m:Nat) (q:Option Addr) (c:Nat),i≤R.length∧y=.int .i64 (i:Int)∧v=.slice q m c∧QH (m=(abK R (ay R F) ⟨s,ro⟩ i).length∧bm wr w1.heap.size (.slice q m c) (abK R (ay R F) ⟨s,ro⟩ i)∧w1.grownBy wr none)) (fun _ y _=>R.length - (intOf y).toNat)
 case atStart=>exact⟨0,0,none,0,Q0 _,rfl,rfl,rfl,⟨rfl,Or.inl ⟨rfl,rfl⟩⟩,aw _ _⟩
 case round =>
  obtain⟨i,m,q,c,hi',rfl,rfl,HQ⟩:=hrel;obtain⟨U,hU⟩:=Qe (wr);subst hU;by_cases hi2:i<R.length
  ·have i1:(i:Int)<(R.length:Int):=Int.ofNat_lt.2 hi2;have hwk:=aR (k:=i) (Ql (Qaf hi2) (Ql HT.o.1.few (by decide)));have HM:QH (R.length - (intOf (.int .i64 ((i:Int)+1))).toNat<R.length - (intOf (.int .i64 (i:Int))).toNat):=cj hi2;obtain⟨j,z,t,f,g,own,ht,h4,hf,hg,hz,ho,hn,hm⟩:=HT.o.1.ab HT.o.2.1 HT.o.2.2.1 hi2;have HU:QH (bm U V.heap.size (.slice pl R.length cl) (R.map Rw.nu)∧w.grownBy U none∧SdB U n0 s∧RD ok U r v p gs∧thR.At U (.slice pt ts.length ct) ts∧feR.At U (.slice pf F.length cf) F):=⟨aC H1.o.1 HQ.o.2.2,aa H1.o.2.1 HQ.o.2.2,ag HQ.o.2.2 H1.o.2.2.1 (by simp),H1.o.2.2.2.1.keep HQ.o.2.2,H1.o.2.2.2.2.1.keep HQ.o.2.2,H1.o.2.2.2.2.2.keep HQ.o.2.2⟩
   have hfl:ts.length≤2048∧F.length≤2048:=⟨HT.o.2.2.2,by rw[←HT.o.1.len];exact HT.o.2.2.2⟩
   have CM:=xN ok r v p gs _ _ ts F s j z t f g own U.drew (HU.o.2.2.2.1.keep (ai _)) (HU.o.2.2.2.2.1.keep (ai _)) (HU.o.2.2.2.2.2.keep (ai _)) ht h4 hf hg hz ho hfl;rw[hm] at CM;unfold sdv at CM;obtain⟨gl,ep,cl0⟩:=jw HU.o.1 (j:=i) (by rw[Qa9];exact hi2);subst ep;rw[gI _ _ _ Rw.none _ hi2,hn] at cl0;obtain⟨s0,s1,s2,s3,s4,s5,s6,s7,s8,s9⟩:=aQ HU.o.2.2.1;have Hi:QH (i<R.length∧(R.getD i Rw.none).nu=(j:Int)+1):=⟨hi2,hn⟩
   obtain⟨bb,hbb⟩:=Qe (gn R (ay R F) ⟨s,ro⟩ i);have Hbb:QH (bb=gn R (ay R F) ⟨s,ro⟩ i):=hbb;rw[←hbb] at CM;clear hi' hi2 ht h4 hf hg hz ho hn hm hfl hbb;go_upto_region 6 with fail;refine wp_region_held_drew (S:=fun w'=>U.grownBy w' none) (by kernel_rfl) (ai _) (fun hHeld=>?_);refine QZ 0 rfl ?_;go_frame;refine QZ 1 rfl ?_;go_frame;refine QZ 2 rfl ?_;go_frame;refine QT 3 rfl (by intro w0 hSw;have s0:=QK hSw s0;have s1:=QK hSw s1;have s2:=QK hSw s2;have s3:=QK hSw s3;have s4:=QK hSw s4;have s5:=QK hSw s5;have s6:=QK hSw s6;have s7:=QK hSw s7;have s8:=QK hSw s8;have s9:=QK hSw s9;go_simp;try with_reducible rfl) ?_;go_frame;refine QZ 4 rfl ?_;go_frame;refine QZ 5 rfl ?_;go_frame;refine QZ 6 rfl ?_;go_frame;refine QT 7 rfl (by intro w0 hSw;have cl0:=QK hSw cl0;go_simp;try with_reducible rfl) ?_;go_frame;refine QR 8 rfl (fun K hK=>?_);go_simp;go_at_call 217;refine(CM).mono ?_;rintro e2 w2 ⟨rfl,g2⟩;have HG2:QH (U.grownBy w2 none):=aa (ai _) g2;clear CM g2;refine hK.out _ _ (HG2.o) (fun hHeld2=>?_);clear hK K;(try go_frame);refine QD ?_;have H2:QH (bm w2 V.heap.size (.slice (some ⟨gl,0,none⟩) R.length cl) (R.map Rw.nu)∧bm w2 w1.heap.size (.slice q m c) (abK R (ay R F) ⟨s,ro⟩ i)∧w1.grownBy w2 none):=⟨aC HU.o.1 HG2.o,aC HQ.o.2.1 HG2.o,aa HQ.o.2.2 HG2.o⟩
   have cl1:=HG2.o.cell cl0 (by simp);clear s0 s1 s2 s3 s4 s5 s6 s7 s8 s9 hHeld hHeld2 cl0 HU HG2;cases bb with
   | true =>
    have HA:QH (abK R (ay R F) ⟨s,ro⟩ (i+1)=abK R (ay R F) ⟨s,ro⟩ i++[(j:Int)+1]):=FR Hi.o.1 Hbb.o.symm Hi.o.2
    have HO:QH (w2.ownsRow w1.heap.size 3 1 (.slice q m c) m (dt (abK R (ay R F) ⟨s,ro⟩ i))):=by
     have h9:=H2.o.2.1;unfold bm at h9;rw[←HQ.o.1] at h9;exact h9
    have HLn:QH (m+1≤maxLen∧(m+1)*8≤140737488355328∧w1.heap.size≤(w2.alloc (.cells #[.int .i64 ((j:Int)+1)] 3)).heap.size):=by
     have h8:=Ei R (ay R F) ⟨s,ro⟩ i;have h7:=HQ.o.1;have h6:=HT.o.1.few;have h5:=Hi.o.1;exact⟨by unfold maxLen;omega,by omega,Ql H2.o.2.2.size (Qa0 w2 (.cells #[.int .i64 ((j:Int)+1)] 3) none).size⟩
    have HSr:QH (Src (w2.alloc (.cells #[.int .i64 ((j:Int)+1)] 3)) (.slice (some ⟨w2.heap.size,0,none⟩) 1 1) 1 1 (dt [(j:Int)+1])):=⟨_,_,rfl,rfl,fun _=>⟨_,rfl,nD w2 _⟩⟩
    go_wp2_with (at_builtin;refine br (by rfl) (.tmp 29) (.tmp 34) 143 rfl w1.heap.size 3 i0 _ 1 8 underlying143 hi hz0 hz1 hz2 rfl (by decide) _ m (dt (abK R (ay R F) ⟨s,ro⟩ i)) rfl (Qaq HO.o _) _ 1 (dt [(j:Int)+1]) rfl HSr.o (lk _) HLn.o.1 HLn.o.2.1 HLn.o.2.2 ?_;intro v9 w9 o9 g9 _;obtain⟨pv,kv,rfl,-⟩:=bZ o9;have HO9:QH _:=o9;have HG9:QH _:=g9;clear o9 g9)
    have HZ:QH (m+1=(abK R (ay R F) ⟨s,ro⟩ (i+1)).length∧bm w9 w1.heap.size (.slice pv (m+1) kv) (abK R (ay R F) ⟨s,ro⟩ (i+1))∧w1.grownBy w9 none):=by
     refine⟨by rw[HA.o,Qa,←HQ.o.1];rfl,?_,ak (aa H2.o.2.2 (Qa0 w2 (.cells #[.int .i64 ((j:Int)+1)] 3) none)) HG9.o (fun y e=>(Qa5 (Qaq HO.o (.cells #[.int .i64 ((j:Int)+1)] 3)) y e).1)⟩;rw[HA.o];exact lJ HO9.o HQ.o.1
    go_roundw
    case rel=>exact⟨i+1,m+1,pv,kv,Hi.o.1,by first | rfl | (rw[hwk];rfl) | go_num,rfl,HZ.o⟩
    case measure=>first | exact HM.o | (rw[hwk];exact HM.o)
   | false =>
    have HA:QH (abK R (ay R F) ⟨s,ro⟩ (i+1)=abK R (ay R F) ⟨s,ro⟩ i):=GN Hi.o.1 Hbb.o.symm;go_wp2_with fail;go_roundw
    case rel=>exact⟨i+1,m,q,c,Hi.o.1,by first | rfl | (rw[hwk];rfl) | go_num,rfl,by rw[HA.o];exact HQ.o.1,by rw[HA.o];exact H2.o.2.1,H2.o.2.2⟩
    case measure=>first | exact HM.o | (rw[hwk];exact HM.o)
  ·obtain rfl:i=R.length:=Qag hi' (Qac hi2);have i1:¬(R.length:Int)<(R.length:Int):=Qb3 _;have HF:QH (bm U w.heap.size (.slice q m c) (fC R (bC R (ay R F) ⟨s,ro⟩))∧w.grownBy U none):=⟨bj HQ.o.2.1 H1.o.2.1.size,aa H1.o.2.1 HQ.o.2.2⟩
   clear hi' hi2 HQ;go_wp2_with fail;go_ret;exact⟨_,rfl,HF.o.1,HF.o.2⟩
theorem DL (h:r≠0):lkE r n cd ts F []=r:=vJ h
theorem Gt:lkE 0 n cd ts F []=if (bI n cd ts F).isSome then 0 else 2:=by
 cases h:bI n cd ts F with
 | none=>rw[rP h];rfl
 | some R=>rw[ks h];rfl
theorem Bv (h:ts.length≤2048):lkE (aX p ts.length) (gs.length:Int) (atC p gs) ts F []=if fp p gs ts F then 0 else 2:=by
 unfold aX fp;rw[if_neg (by omega),Qy h,Qah];cases p.shut with
 | true=>rw[if_pos rfl,Gt,Qah]
 | false=>rw[if_neg (by decide),DL (by decide),Qai];rfl
theorem vN (ok:Nat→Prop) (r:Nat) (v:Value) (p:Pl) (gs:List Ent) (vt vf:Value) (ts:List Th) (F:List Fe) (w:World) (B:RD ok w r v p gs) (A:thR.At w vt ts) (AF:feR.At w vf F) (hr:TrI F):Calls prog 64 #[.pointer (some ⟨r,0,none⟩),vt,vf] w fun e w'=>e=.returned (.int .i64 (lkE (aX p ts.length) (gs.length:Int) (atC p gs) ts F []))∧w.grownBy w' none:=by
 have C1:=bA r v p w B.rj;have C2:=jS ok r v p gs vt vf ts F w B A AF hr;obtain⟨pt,ct,rfl⟩:=A.form;obtain⟨pf,cf,rfl⟩:=AF.form;clear B A AF hr;go_enter func64,ntmps64;go_wp2_with fail;refine C1.mono ?_;rintro e1 w1 ⟨rfl,hw1⟩;rw[hw1];clear hw1 w1 C1;by_cases h2:(2048:Int)<(ts.length:Int)
 ·have HE:QH (lkE (aX p ts.length) (gs.length:Int) (atC p gs) ts F []=3):=by
   show _=_;unfold aX;rw[if_pos (by omega),DL (by decide)]
  have d2:decide ((2048:Int)<(ts.length:Int))=true:=Qy h2;clear h2;go_wp2_with fail;go_ret;exact⟨by rw[HE.o] <;> rfl,aw _ _⟩
 ·have d2:decide ((2048:Int)<(ts.length:Int))=false:=Qx h2;obtain⟨q,hq⟩:=Qe (fp p gs ts F)
  have HE:QH (lkE (aX p ts.length) (gs.length:Int) (atC p gs) ts F []=if q then 0 else 2):=by
   show _=_;rw[Bv (by omega),←hq]
  rw[←hq] at C2;clear hq h2;go_wp2_with fail;refine C2.mono ?_;rintro e2 w2 ⟨rfl,g2⟩;have HG:QH (w.grownBy w2 none):=g2;clear C2 g2;cases q with
  | true =>
   go_wp2_with fail;go_ret;exact⟨by rw[HE.o] <;> rfl,HG.o⟩
  | false =>
   go_wp2_with fail;go_ret;exact⟨by rw[HE.o] <;> rfl,HG.o⟩
