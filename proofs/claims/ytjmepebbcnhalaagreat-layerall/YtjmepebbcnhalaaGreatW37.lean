import Derived.Test.YtjmepebbcnhalaaGreatWRyA
import Derived.Test.YtjmepebbcnhalaaGreatW36
import Derived.Test.YtjmepebbcnhalaaGreatW0
namespace Go.Proofs.YtjmepebbcnhalaaGreat
set_option maxRecDepth 100000
set_option maxHeartbeats 4000000
open Go.RowKit Go.Shelf
def jL (kd:Int) (t:Th):Bool:=decide (t.place=4) && decide (kd=1)
theorem rZ (ok:Nat→Prop) (r:Nat) (v:Value) (p:Pl) (gs:List Ent) (t:Th) (w:World) (B:RD ok w r v p gs):Calls Tryz.prog 263 #[.pointer (some ⟨r,0,none⟩),thv t] w fun e w'=>e=.returned (.bool (jL (atC p gs t.card).1.kd t))∧w.grownBy w' none:=by
 obtain⟨V,hV⟩:∃ V,V=w.alloc (.cells #[.int .i64 t.card,.int .i64 t.owner,.int .u8 t.place,.int .i64 t.stamp,.int .i64 t.hurt,.int .i64 t.m0,.int .i64 t.m1,.int .i64 t.m2,.int .i64 t.m3,.int .i64 t.done,.bool t.fresh] 120):=⟨_,rfl⟩
 have HV:Hid (ThB V w.heap.size t∧w.grownBy V none):=⟨by rw[hV];exact ak _ _ _,by rw[hV];exact World.grownBy_alloc _ _ none⟩
 have C2:=lv ok r v p gs t.card V (B.keep HV.out.2)
 unfold fO at C2
 obtain⟨h,hh⟩:∃ h,h=(atC p gs t.card).1:=⟨_,rfl⟩
 obtain⟨x,hx⟩:∃ x,x=atX p gs t.card:=⟨_,rfl⟩
 rw[←hh,←hx] at C2
 rw[←hh]
 unfold cv at C2
 unfold thv
 clear B hh hx
 go_enter Tryz.func263,Tryz.ntmps263
 go_upto_region 1 with fail
 rw[←hV]
 obtain⟨n0,hn0⟩:∃ n0,n0=w.heap.size:=⟨_,rfl⟩
 rw[←hn0] at HV ⊢
 clear hV hn0
 obtain⟨b0,b1,b2,b3,b4,b5,b6,b7,b8,b9,b10⟩:=dj HV.out.1
 go_wp2_with fail
 refine C2.mono ?_
 rintro e2 w2 ⟨u,rfl,ou,g2⟩
 obtain⟨pu,cu,mu,rfl⟩:∃ p c m,u=.slice p m c:=by obtain⟨p,c,e,_⟩:=bz ou;exact⟨p,c,_,e⟩
 obtain⟨Z,hZ⟩:∃ Z,Z=w2.alloc (.cells #[.string h.nm,.int .u8 h.su,.int .u8 h.kd,.int .i64 h.co,.int .i64 h.po,.int .i64 h.he,.int .u16 h.tr,.bool h.tk,.slice pu mu cu] 111):=⟨_,rfl⟩
 have HZ:Hid (CdK Z w2.heap.size h (.slice pu mu cu)∧ThB Z n0 t∧w.grownBy Z none):=by
  have g:w2.grownBy Z none:=by rw[hZ];exact World.grownBy_alloc _ _ none
  exact⟨by rw[hZ];exact ak _ _ _,ai g (ai g2 HV.out.1 (by simp)) (by simp),aa (aa HV.out.2 g2) g⟩
 clear C2 ou g2 b0 b1 b2 b3 b4 b5 b6 b7 b8 b9 b10
 go_upto_region 2 with fail
 rw[←hZ]
 obtain⟨nc,hnc⟩:∃ nc,nc=w2.heap.size:=⟨_,rfl⟩
 rw[←hnc] at HZ ⊢
 clear hZ hnc
 obtain⟨b0,b1,b2,b3,-⟩:=dj HZ.out.2.1
 have k2:Z.cell? ⟨nc,2,none⟩=some (.int .u8 h.kd):=(ae HZ.out.1 2).trans rfl
 by_cases h4:t.place=4
 ·have e1:(t.place == 4)=true:=by rw[h4];rfl
  by_cases h1:h.kd=1
  ·have e2:(h.kd == 1)=true:=by rw[h1];rfl
   have HU:Hid (jL h.kd t=true):=by show _=_;unfold jL;rw[decide_eq_true h4,decide_eq_true h1];rfl
   clear h4 h1
   go_wp2_with fail
   go_ret
   exact⟨by rw[HU.out] <;> rfl,HZ.out.2.2⟩
  ·have e2:(h.kd == 1)=false:=by simpa using h1
   have HU:Hid (jL h.kd t=false):=by show _=_;unfold jL;rw[decide_eq_false h1,Bool.and_false]
   clear h4 h1
   go_wp2_with fail
   go_ret
   exact⟨by rw[HU.out] <;> rfl,HZ.out.2.2⟩
 ·have e1:(t.place == 4)=false:=by simpa using h4
  have HU:Hid (jL h.kd t=false):=by show _=_;unfold jL;rw[decide_eq_false h4,Bool.false_and]
  clear h4
  go_wp2_with fail
  go_ret
  exact⟨by rw[HU.out] <;> rfl,HZ.out.2.2⟩
theorem yl {wh:Pt} {own:Bool} {kd:Int} {f:Fe} {ho:Int} (h:wh.wm=4):cR wh own kd f ho=own:=by unfold cR;rw[if_pos h]
theorem xk {wh:Pt} {own:Bool} {kd:Int} {f:Fe} {ho:Int} (h:¬wh.wm=4) (hk:¬kd=1):cR wh own kd f ho=false:=by unfold cR;rw[if_neg h,if_pos hk]
def uL (wm:Int) (wh:Pt) (own:Bool) (f:Fe) (ho:Int):Bool:=if wm=5 then decide (f.ho=ho) else if wm=8 then decide (f.ho=ho) && !own else if wm=6 then !decide (f.ho=ho) else if wm=7 then true else if wm=9 then decide (f.su=wh.su) else if wm=10 then jZ f.tr wh.tr else false
theorem qJ {wh:Pt} {own:Bool} {kd:Int} {f:Fe} {ho:Int} (h:¬wh.wm=4) (hk:kd=1):cR wh own kd f ho=uL wh.wm wh own f ho:=by unfold cR uL;rw[if_neg h,if_neg (by simpa using hk)]
theorem jM {w:World} {g off n c:Nat} {X:List Fe} (h:feR.At w (.slice (some ⟨g,off,none⟩) n c) X) {i:Nat} {x:Fe} (hx:X[i]?=some x):w.rangeAt g (off+i*5) (fec x):=by
 obtain⟨hi,e⟩:=List.getElem?_eq_some_iff.1 hx
 obtain⟨g',off',cap,e1,r⟩:=eB h hi
 injection e1 with e1 _ _
 injection e1 with e1
 injection e1 with ea eb
 rw[ea,eb,←e]
 exact r
theorem uk (ok:Nat→Prop) (r:Nat) (v:Value) (p:Pl) (gs:List Ent) (vt vf:Value) (ts:List Th) (F:List Fe) (s:Sd) (j z:Nat) (t:Th) (f g:Fe) (own:Bool) (w:World) (B:RD ok w r v p gs) (A:thR.At w vt ts) (AF:feR.At w vf F) (hj:ts[j]?=some t) (h4:t.place=4) (hf:F[j]?=some f) (hg:F[z]?=some g) (hz:s.th=(z:Int)+1) (ho:(((j:Int)+1) == s.th)=own) (hl:ts.length≤2048∧F.length≤2048):Calls Tryz.prog 217 #[.pointer (some ⟨r,0,none⟩),vt,vf,sdv s,.int .i64 ((j:Int)+1)] w fun e w'=>e=.returned (.bool (cR s.wh own (atC p gs t.card).1.kd f g.ho))∧w.grownBy w' none:=by
 obtain⟨pt,ct,rfl⟩:=A.form
 obtain⟨pf,cf,rfl⟩:=AF.form
 have hjl:j<ts.length:=(List.getElem?_eq_some_iff.1 hj).1
 have hjf:j<F.length:=(List.getElem?_eq_some_iff.1 hf).1
 have hzf:z<F.length:=(List.getElem?_eq_some_iff.1 hg).1
 obtain⟨V,hV⟩:∃ V,V=w.alloc (.cells #[.int .i64 s.th,.int .i64 s.pl,.int .u8 s.wh.wn,.int .u8 s.wh.vb,.int .u8 s.wh.wm,.int .i64 s.wh.ct,.int .u8 s.wh.su,.int .u8 s.wh.tr,.int .u8 s.wh.mr,.string s.wh.nm] 64):=⟨_,rfl⟩
 have HV:Hid (SdB V w.heap.size s∧w.grownBy V none∧RD ok V r v p gs∧thR.At V (.slice pt ts.length ct) ts∧feR.At V (.slice pf F.length cf) F):=by
  have gr:w.grownBy V none:=by rw[hV];exact World.grownBy_alloc _ _ none
  exact⟨by rw[hV];exact ak _ _ _,gr,B.keep gr,A.keep gr,AF.keep gr⟩
 have HJ:Hid (ts[j]?=some t∧F[j]?=some f∧F[z]?=some g∧t.place=4):=⟨hj,hf,hg,h4⟩
 obtain⟨kd,hkd⟩:∃ kd,kd=(atC p gs t.card).1.kd:=⟨_,rfl⟩
 have CU:=rZ ok r v p gs t V HV.out.2.2.1
 rw[←hkd] at CU
 rw[show jL kd t=decide (kd=1) from by unfold jL;rw[decide_eq_true h4,Bool.true_and]] at CU
 rw[←hkd]
 have j1:((j:Int))<(ts.length:Int):=Int.ofNat_lt.2 hjl
 have j2:((j:Int))<(F.length:Int):=Int.ofNat_lt.2 hjf
 have z1:((z:Int))<(F.length:Int):=Int.ofNat_lt.2 hzf
 have wj:wrap64 (j:Int)=(j:Int):=by unfold wrap64;omega
 have wz:wrap64 (z:Int)=(z:Int):=by unfold wrap64;omega
 have wj2:IntKind.i64.wrap (j:Int)=(j:Int):=by rw[IntWalk.i64_in _ (by omega)]
 have wz2:IntKind.i64.wrap (z:Int)=(z:Int):=by rw[IntWalk.i64_in _ (by omega)]
 obtain⟨gT,oT,cT,eT,-⟩:=dw A hjl
 injection eT with eT eT2 eT3
 clear eT2 eT3
 subst eT
 obtain⟨gF,oF,cF,eF,-⟩:=eB AF hjf
 injection eF with eF eF2 eF3
 clear eF2 eF3
 subst eF
 have Hz:Hid (s.th=(z:Int)+1):=hz
 unfold sdv
 rw[hz] at ho ⊢
 unfold thv at CU
 clear B A AF hj h4 hf hg hl hkd hjl hjf hzf hz
 go_enter Tryz.func217,Tryz.ntmps217
 go_upto_region 1 with fail
 rw[show w.alloc (.cells #[.int .i64 ((z:Int)+1),.int .i64 s.pl,.int .u8 s.wh.wn,.int .u8 s.wh.vb,.int .u8 s.wh.wm,.int .i64 s.wh.ct,.int .u8 s.wh.su,.int .u8 s.wh.tr,.int .u8 s.wh.mr,.string s.wh.nm] 64)=V from by rw[hV,Hz.out]]
 obtain⟨n0,hn0⟩:∃ n0,n0=w.heap.size:=⟨_,rfl⟩
 rw[←hn0] at HV ⊢
 clear hV hn0
 obtain⟨s0,-,-,-,s4,-,s6,s7,-⟩:=bl HV.out.1
 rw[Hz.out] at s0
 by_cases w4:s.wh.wm=4
 ·have e4:(s.wh.wm == 4)=true:=by rw[w4];rfl
  have HR:Hid (cR s.wh own kd f g.ho=own):=yl w4
  clear w4
  go_wp2_with fail
  go_ret
  exact⟨by rw[HR.out] <;> rfl,HV.out.2.1⟩
 ·have e4:(s.wh.wm == 4)=false:=by simpa using w4
  obtain⟨t0,t1,t2,t3,t4,t5,t6,t7,t8,t9,t10⟩:=dh (oM HV.out.2.2.2.1 HJ.out.1)
  by_cases hk:kd=1
  ·rw[decide_eq_true hk] at CU
   have HR:Hid (cR s.wh own kd f g.ho=uL s.wh.wm s.wh own f g.ho):=qJ w4 hk
   clear w4 hk
   go_wp2_with fail
   refine CU.mono ?_
   rintro e1 w1 ⟨rfl,g1⟩
   obtain⟨Y,hY⟩:∃ Y,Y=w1.alloc (.cells #[.int .i64 f.ho,.int .u8 f.su,.int .u16 f.tr,.int .i64 f.po,.int .i64 f.he] 122):=⟨_,rfl⟩
   have HY:Hid (FeB Y w1.heap.size f∧SdB Y n0 s∧w.grownBy Y none∧feR.At Y (.slice (some ⟨gF,oF,none⟩) F.length cf) F):=by
    have gr:w1.grownBy Y none:=by rw[hY];exact World.grownBy_alloc _ _ none
    exact⟨by rw[hY];exact ak _ _ _,ai gr (ai g1 HV.out.1 (by simp)) (by simp),aa (aa HV.out.2.1 g1) gr,(HV.out.2.2.2.2.keep g1).keep gr⟩
   obtain⟨f0,f1,f2,f3,f4⟩:=bJ (jM (HV.out.2.2.2.2.keep g1) HJ.out.2.1)
   clear CU g1 t0 t1 t2 t3 t4 t5 t6 t7 t8 t9 t10 s0 s4 s6 s7 e4
   go_upto_region 6 with fail
   rw[←hY]
   obtain⟨n1,hn1⟩:∃ n1,n1=w1.heap.size:=⟨_,rfl⟩
   rw[←hn1] at HY ⊢
   clear hY hn1 f0 f1 f2 f3 f4
   obtain⟨f0,f1,f2,-⟩:=kD HY.out.1
   obtain⟨g0,-⟩:=bJ (jM HY.out.2.2.2 HJ.out.2.2.1)
   obtain⟨s0,-,-,-,s4,-,s6,s7,-⟩:=bl HY.out.2.1
   rw[Hz.out] at s0
   have HGE:Hid (w.grownBy Y none):=HY.out.2.2.1
   obtain⟨wm,hwm⟩:∃ wm,wm=s.wh.wm:=⟨_,rfl⟩
   rw[←hwm] at HR s4
   clear hwm HY HV
   by_cases w5:wm=5
   ·subst w5
    have HQ:Hid (cR s.wh own kd f g.ho=(f.ho == g.ho)):=by show _=_;rw[HR.out];rfl
    go_wp2_with fail
    go_ret
    exact⟨by rw[HQ.out] <;> rfl,HGE.out⟩
   ·have e5:(wm == 5)=false:=by simpa using w5
    by_cases w8:wm=8
    ·subst w8
     by_cases q:f.ho=g.ho
     ·have eq:(f.ho == g.ho)=true:=by rw[q];exact beq_self_eq_true _
      have hn:(((j:Int)+1) != ((z:Int)+1))=!own:=by rw[bne,ho]
      have HQ:Hid (cR s.wh own kd f g.ho=!own):=by show _=_;rw[HR.out];show (decide (f.ho=g.ho) && !own)=_;rw[decide_eq_true q,Bool.true_and]
      clear q w5
      go_wp2_with fail
      go_ret
      exact⟨by rw[HQ.out] <;> rfl,HGE.out⟩
     ·have eq:(f.ho == g.ho)=false:=by simpa using q
      have HQ:Hid (cR s.wh own kd f g.ho=false):=by show _=_;rw[HR.out];show (decide (f.ho=g.ho) && !own)=_;rw[decide_eq_false q,Bool.false_and]
      clear q w5
      go_wp2_with fail
      go_ret
      exact⟨by rw[HQ.out] <;> rfl,HGE.out⟩
    ·have e8:(wm == 8)=false:=by simpa using w8
     by_cases w6:wm=6
     ·subst w6
      have HQ:Hid (cR s.wh own kd f g.ho=(f.ho != g.ho)):=by show _=_;rw[HR.out];rfl
      clear w5 w8
      go_wp2_with fail
      go_ret
      exact⟨by rw[HQ.out] <;> rfl,HGE.out⟩
     ·have e6:(wm == 6)=false:=by simpa using w6
      by_cases w7:wm=7
      ·subst w7
       have HQ:Hid (cR s.wh own kd f g.ho=true):=by show _=_;rw[HR.out];rfl
       clear w5 w8 w6
       go_wp2_with fail
       go_ret
       exact⟨by rw[HQ.out] <;> rfl,HGE.out⟩
      ·have e7:(wm == 7)=false:=by simpa using w7
       by_cases w9:wm=9
       ·subst w9
        have HQ:Hid (cR s.wh own kd f g.ho=(f.su == s.wh.su)):=by show _=_;rw[HR.out];rfl
        clear w5 w8 w6 w7
        go_wp2_with fail
        go_ret
        exact⟨by rw[HQ.out] <;> rfl,HGE.out⟩
       ·have e9:(wm == 9)=false:=by simpa using w9
        by_cases w10:wm=10
        ·subst w10
         have HQ:Hid (cR s.wh own kd f g.ho=jZ f.tr s.wh.tr):=by show _=_;rw[HR.out];rfl
         have CH:=nT f.tr s.wh.tr Y
         clear w5 w8 w6 w7 w9
         go_wp2_with fail
         refine CH.mono ?_
         rintro e3 w3 ⟨rfl,hw3⟩
         rw[hw3]
         clear hw3 w3 CH
         go_wp2_with fail
         go_ret
         exact⟨by rw[HQ.out] <;> rfl,HGE.out⟩
        ·have e10:(wm == 10)=false:=by simpa using w10
         have HQ:Hid (cR s.wh own kd f g.ho=false):=by
          show _=_
          rw[HR.out]
          unfold uL
          rw[if_neg w5,if_neg w8,if_neg w6,if_neg w7,if_neg w9,if_neg w10]
         clear w5 w8 w6 w7 w9 w10
         go_wp2_with fail
         go_ret
         exact⟨by rw[HQ.out] <;> rfl,HGE.out⟩
  ·rw[decide_eq_false hk] at CU
   have HR:Hid (cR s.wh own kd f g.ho=false):=xk w4 hk
   clear w4 hk
   go_wp2_with fail
   refine CU.mono ?_
   rintro e1 w1 ⟨rfl,g1⟩
   have HG1:Hid (w.grownBy w1 none):=aa HV.out.2.1 g1
   clear CU g1
   go_wp2_with fail
   go_ret
   exact⟨by rw[HR.out] <;> rfl,HG1.out⟩
theorem Tab.ab {n:Int} {cd:Int→Hd×List Pt} {ts:List Th} {F:List Fe} {R:List Rw} (h:Tab n cd ts F R) {s:Sd} {ro i:Nat} (hr:ro<R.length) (hs:(R.getD ro Rw.none).nu=s.th) (hi:i<R.length):∃ (j z:Nat) (t:Th) (f g:Fe) (own:Bool),ts[j]?=some t∧t.place=4∧F[j]?=some f∧F[z]?=some g∧s.th=(z:Int)+1∧(((j:Int)+1) == s.th)=own∧(R.getD i Rw.none).nu=(j:Int)+1∧cR s.wh own (cd t.card).1.kd f g.ho=di R (aq R F) ⟨s,ro⟩ i:=by
 obtain⟨j,t,ht,h4,e⟩:=h.row (show R.getD i Rw.none∈R by rw[aC hi];exact List.getElem_mem _)
 obtain⟨z,u,hu,-,e2⟩:=h.row (show R.getD ro Rw.none∈R by rw[aC hr];exact List.getElem_mem _)
 have hj:j<F.length:=by rw[←h.len];exact(List.getElem?_eq_some_iff.1 ht).1
 have hz:z<F.length:=by rw[←h.len];exact(List.getElem?_eq_some_iff.1 hu).1
 have nj:(R.getD i Rw.none).nu=(j:Int)+1:=by rw[e]
 have nz:(R.getD ro Rw.none).nu=(z:Int)+1:=by rw[e2]
 have hown:(((j:Int)+1) == s.th)=decide (i=ro):=by
  rw[←hs,←nj]
  by_cases q:i=ro
  ·subst q;rw[decide_eq_true rfl];exact beq_self_eq_true _
  ·rw[decide_eq_false q]
   exact Bool.eq_false_iff.2 fun y=>q (jt h.nod hi hr (by simpa using y))
 refine⟨j,z,t,F[j],F[z],decide (i=ro),ht,h4,List.getElem?_eq_getElem hj,List.getElem?_eq_getElem hz,by rw[←hs,nz],hown,nj,?_⟩
 unfold di
 have p1:(aq R F).getD i Fe.none=F[j]:=by
  unfold aq
  rw[gP _ _ _ Rw.none _ hi,nj,toN,aC hj]
 have p2:(aq R F).getD ro Fe.none=F[z]:=by
  unfold aq
  rw[gP _ _ _ Rw.none _ hr,nz,toN,aC hz]
 rw[p1,p2,show (R.getD i Rw.none).h.kd=(cd t.card).1.kd from by rw[e]]
theorem rA {R:List Rw} {F:List Fe} {e:Se} {i:Nat} (hi:i<R.length):(aM R F e).getD i false=di R F e i:=by
 unfold aM dD
 rw[List.getD_eq_getElem?_getD,List.getElem?_map,List.getElem?_range hi]
 rfl
def abK (R:List Rw) (F:List Fe) (e:Se) (k:Nat):List Int:=fy R (aM R F e) k
theorem By {R:List Rw} {F:List Fe} {e:Se} {i:Nat} {x:Int} (hi:i<R.length) (h:di R F e i=true) (hx:(R.getD i Rw.none).nu=x):abK R F e (i+1)=abK R F e i++[x]:=by
 unfold abK
 rw[rK (by rw[rA hi,h]),hx]
theorem BR {R:List Rw} {F:List Fe} {e:Se} {i:Nat} (hi:i<R.length) (h:di R F e i=false):abK R F e (i+1)=abK R F e i:=by
 unfold abK
 rw[uV (by rw[rA hi,h])]
theorem B6 (R:List Rw) (F:List Fe) (e:Se) (k:Nat):(abK R F e k).length≤k:=iO _ _ _
theorem ja {w:World} {base m c:Nat} {p:Option Addr} {l:List Int} (h:aQ w base (.slice p m c) l) {j:Nat} (hj:j<l.length):∃ g,p=some ⟨g,0,none⟩∧w.cell? ⟨g,j,none⟩=some (.int .i64 (l.getD j 0)):=by
 obtain⟨g,c',e,_,_,_,_,hc⟩:=cc h (by omega)
 injection e with e _ _
 refine⟨g,e,(hc j (by omega)).1.trans ?_⟩
 unfold ints
 rw[List.getElem?_map,List.getElem?_eq_getElem hj,Option.map_some,aC hj]
theorem ir (ok:Nat→Prop) (r:Nat) (v:Value) (p:Pl) (gs:List Ent) (vt vf:Value) (ts:List Th) (F:List Fe) (R:List Rw) (s:Sd) (ro:Nat) (w:World) (B:RD ok w r v p gs) (A:thR.At w vt ts) (AF:feR.At w vf F) (hT:Tab (gs.length:Int) (atC p gs) ts F R) (hr:ro<R.length) (hs:(R.getD ro Rw.none).nu=s.th) (hl:ts.length≤2048):Calls Tryz.prog 148 #[.pointer (some ⟨r,0,none⟩),vt,vf,sdv s] w fun e w'=>∃ v,e=.returned v∧aQ w' w.heap.size v (dA R (aM R (aq R F) ⟨s,ro⟩))∧w.grownBy w' none:=by
 obtain⟨i0,hi,hz0,hz1,hz2⟩:=info_parts Tryz.linfo3
 obtain⟨pt,ct,rfl⟩:=A.form
 obtain⟨pf,cf,rfl⟩:=AF.form
 obtain⟨V,hV⟩:∃ V,V=w.alloc (.cells #[.int .i64 s.th,.int .i64 s.pl,.int .u8 s.wh.wn,.int .u8 s.wh.vb,.int .u8 s.wh.wm,.int .i64 s.wh.ct,.int .u8 s.wh.su,.int .u8 s.wh.tr,.int .u8 s.wh.mr,.string s.wh.nm] 64):=⟨_,rfl⟩
 have HV:Hid (SdB V w.heap.size s∧w.grownBy V none∧RD ok V r v p gs∧thR.At V (.slice pt ts.length ct) ts∧feR.At V (.slice pf F.length cf) F):=by
  have gr:w.grownBy V none:=by rw[hV];exact World.grownBy_alloc _ _ none
  exact⟨by rw[hV];exact ak _ _ _,gr,B.keep gr,A.keep gr,AF.keep gr⟩
 have HT:Hid (Tab (gs.length:Int) (atC p gs) ts F R∧ro<R.length∧(R.getD ro Rw.none).nu=s.th∧ts.length≤2048):=⟨hT,hr,hs,hl⟩
 have CO:=m9 _ _ _ ts F R V HV.out.2.2.2.1 hT hl
 unfold sdv
 clear B A AF hT hr hs hl
 go_enter Tryz.func148,Tryz.ntmps148
 go_upto_region 1 with fail
 rw[←hV]
 obtain⟨n0,hn0⟩:∃ n0,n0=w.heap.size:=⟨_,rfl⟩
 have Hn0:Hid (n0=w.heap.size):=hn0
 rw[←hn0] at HV ⊢
 clear hV hn0
 go_wp2_with fail
 refine CO.mono ?_
 rintro e1 w1 ⟨v1,rfl,o1,g1⟩
 obtain⟨pl,cl,ev⟩:=aQ.form o1
 rw[List.length_map] at ev
 subst ev
 have H1:Hid (aQ w1 V.heap.size (.slice pl R.length cl) (R.map Rw.nu)∧w.grownBy w1 none∧SdB w1 n0 s∧RD ok w1 r v p gs∧thR.At w1 (.slice pt ts.length ct) ts∧feR.At w1 (.slice pf F.length cf) F):=⟨o1,aa HV.out.2.1 g1,ai g1 HV.out.1 (by simp),HV.out.2.2.1.keep g1,HV.out.2.2.2.1.keep g1,HV.out.2.2.2.2.keep g1⟩
 clear CO o1 g1 HV
 go_wp2_with fail
 go_loopw [9,11] (fun v y wr=>∃ (i m:Nat) (q:Option Addr) (c:Nat),i≤R.length∧y=.int .i64 (i:Int)∧v=.slice q m c∧Hid (m=(abK R (aq R F) ⟨s,ro⟩ i).length∧aQ wr w1.heap.size (.slice q m c) (abK R (aq R F) ⟨s,ro⟩ i)∧w1.grownBy wr none)) (fun _ y _=>R.length - (intOf y).toNat)
 case atStart=>exact⟨0,0,none,0,Nat.zero_le _,rfl,rfl,rfl,⟨rfl,Or.inl ⟨rfl,rfl⟩⟩,ay _ _⟩
 case round =>
  obtain⟨i,m,q,c,hi',rfl,rfl,HQ⟩:=hrel
  obtain⟨U,hU⟩:∃ U,U=wr:=⟨_,rfl⟩
  subst hU
  by_cases hi2:i<R.length
  ·have i1:(i:Int)<(R.length:Int):=Int.ofNat_lt.2 hi2
   have hwk:=aW (k:=i) (Nat.le_trans (Nat.le_of_lt hi2) (Nat.le_trans HT.out.1.few (by decide)))
   have HM:Hid (R.length - (intOf (.int .i64 ((i:Int)+1))).toNat<R.length - (intOf (.int .i64 (i:Int))).toNat):=bQ hi2
   obtain⟨j,z,t,f,g,own,ht,h4,hf,hg,hz,ho,hn,hm⟩:=HT.out.1.ab HT.out.2.1 HT.out.2.2.1 hi2
   have HU:Hid (aQ U V.heap.size (.slice pl R.length cl) (R.map Rw.nu)∧w.grownBy U none∧SdB U n0 s∧RD ok U r v p gs∧thR.At U (.slice pt ts.length ct) ts∧feR.At U (.slice pf F.length cf) F):=⟨ar H1.out.1 HQ.out.2.2,aa H1.out.2.1 HQ.out.2.2,ai HQ.out.2.2 H1.out.2.2.1 (by simp),H1.out.2.2.2.1.keep HQ.out.2.2,H1.out.2.2.2.2.1.keep HQ.out.2.2,H1.out.2.2.2.2.2.keep HQ.out.2.2⟩
   have hfl:ts.length≤2048∧F.length≤2048:=⟨HT.out.2.2.2,by rw[←HT.out.1.len];exact HT.out.2.2.2⟩
   have CM:=uk ok r v p gs _ _ ts F s j z t f g own U.drew (HU.out.2.2.2.1.keep (ag _)) (HU.out.2.2.2.2.1.keep (ag _)) (HU.out.2.2.2.2.2.keep (ag _)) ht h4 hf hg hz ho hfl
   rw[hm] at CM
   unfold sdv at CM
   obtain⟨gl,ep,cl0⟩:=ja HU.out.1 (j:=i) (by rw[List.length_map];exact hi2)
   subst ep
   rw[gP _ _ _ Rw.none _ hi2,hn] at cl0
   obtain⟨s0,s1,s2,s3,s4,s5,s6,s7,s8,s9⟩:=bl HU.out.2.2.1
   have Hi:Hid (i<R.length∧(R.getD i Rw.none).nu=(j:Int)+1):=⟨hi2,hn⟩
   obtain⟨bb,hbb⟩:∃ bb,bb=di R (aq R F) ⟨s,ro⟩ i:=⟨_,rfl⟩
   have Hbb:Hid (bb=di R (aq R F) ⟨s,ro⟩ i):=hbb
   rw[←hbb] at CM
   clear hi' hi2 ht h4 hf hg hz ho hn hm hfl hbb
   go_upto_region 6 with fail
   refine wp_region_held_drew (S:=fun w'=>U.grownBy w' none) (by kernel_rfl) (ag _) (fun hHeld=>?_)
   refine QZ 0 rfl ?_
   go_frame
   refine QZ 1 rfl ?_
   go_frame
   refine QZ 2 rfl ?_
   go_frame
   refine QT 3 rfl (by intro w0 hSw;have s0:=hSw.cell s0 (by simp);have s1:=hSw.cell s1 (by simp);have s2:=hSw.cell s2 (by simp);have s3:=hSw.cell s3 (by simp);have s4:=hSw.cell s4 (by simp);have s5:=hSw.cell s5 (by simp);have s6:=hSw.cell s6 (by simp);have s7:=hSw.cell s7 (by simp);have s8:=hSw.cell s8 (by simp);have s9:=hSw.cell s9 (by simp);go_simp;try with_reducible rfl) ?_
   go_frame
   refine QZ 4 rfl ?_
   go_frame
   refine QZ 5 rfl ?_
   go_frame
   refine QZ 6 rfl ?_
   go_frame
   refine QT 7 rfl (by intro w0 hSw;have cl0:=hSw.cell cl0 (by simp);go_simp;try with_reducible rfl) ?_
   go_frame
   refine QR 8 rfl (fun K hK=>?_)
   go_simp
   go_at_call 217
   refine(CM).mono ?_
   rintro e2 w2 ⟨rfl,g2⟩
   have HG2:Hid (U.grownBy w2 none):=aa (ag _) g2
   clear CM g2
   refine hK.out _ _ (HG2.out) (fun hHeld2=>?_)
   clear hK K
   (try go_frame)
   refine QD ?_
   have H2:Hid (aQ w2 V.heap.size (.slice (some ⟨gl,0,none⟩) R.length cl) (R.map Rw.nu)∧aQ w2 w1.heap.size (.slice q m c) (abK R (aq R F) ⟨s,ro⟩ i)∧w1.grownBy w2 none):=⟨ar HU.out.1 HG2.out,ar HQ.out.2.1 HG2.out,aa HQ.out.2.2 HG2.out⟩
   have cl1:=HG2.out.cell cl0 (by simp)
   clear s0 s1 s2 s3 s4 s5 s6 s7 s8 s9 hHeld hHeld2 cl0 HU HG2
   cases bb with
   | true =>
    have HA:Hid (abK R (aq R F) ⟨s,ro⟩ (i+1)=abK R (aq R F) ⟨s,ro⟩ i++[(j:Int)+1]):=By Hi.out.1 Hbb.out.symm Hi.out.2
    have HO:Hid (w2.ownsRow w1.heap.size 3 1 (.slice q m c) m (ints (abK R (aq R F) ⟨s,ro⟩ i))):=by
     have h9:=H2.out.2.1
     unfold aQ at h9
     rw[←HQ.out.1] at h9
     exact h9
    have HLn:Hid (m+1≤maxLen∧(m+1)*8≤140737488355328∧w1.heap.size≤(w2.alloc (.cells #[.int .i64 ((j:Int)+1)] 3)).heap.size):=by
     have h8:=B6 R (aq R F) ⟨s,ro⟩ i
     have h7:=HQ.out.1
     have h6:=HT.out.1.few
     have h5:=Hi.out.1
     exact⟨by unfold maxLen;omega,by omega,Nat.le_trans H2.out.2.2.size (World.grownBy_alloc w2 (.cells #[.int .i64 ((j:Int)+1)] 3) none).size⟩
    have HSr:Hid (Src (w2.alloc (.cells #[.int .i64 ((j:Int)+1)] 3)) (.slice (some ⟨w2.heap.size,0,none⟩) 1 1) 1 1 (ints [(j:Int)+1])):=⟨_,_,rfl,rfl,fun _=>⟨_,rfl,lM w2 _⟩⟩
    go_wp2_with (at_builtin;refine aX (by rfl) (.tmp 29) (.tmp 34) 143 rfl w1.heap.size 3 i0 _ 1 8 Tryz.underlying143 hi hz0 hz1 hz2 rfl (by decide) _ m (ints (abK R (aq R F) ⟨s,ro⟩ i)) rfl (World.ownsRow.alloc HO.out _) _ 1 (ints [(j:Int)+1]) rfl HSr.out (kL _) HLn.out.1 HLn.out.2.1 HLn.out.2.2 ?_;intro v9 w9 o9 g9 _;obtain⟨pv,kv,rfl,-⟩:=bz o9;have HO9:Hid _:=o9;have HG9:Hid _:=g9;clear o9 g9)
    have HZ:Hid (m+1=(abK R (aq R F) ⟨s,ro⟩ (i+1)).length∧aQ w9 w1.heap.size (.slice pv (m+1) kv) (abK R (aq R F) ⟨s,ro⟩ (i+1))∧w1.grownBy w9 none):=by
     refine⟨by rw[HA.out,List.length_append,←HQ.out.1];rfl,?_,az (aa H2.out.2.2 (World.grownBy_alloc w2 (.cells #[.int .i64 ((j:Int)+1)] 3) none)) HG9.out (fun y e=>(World.ownsRow.lt (World.ownsRow.alloc HO.out (.cells #[.int .i64 ((j:Int)+1)] 3)) y e).1)⟩
     rw[HA.out]
     exact ky HO9.out HQ.out.1
    go_roundw
    case rel=>exact⟨i+1,m+1,pv,kv,Hi.out.1,by first | rfl | (rw[hwk];rfl) | go_num,rfl,HZ.out⟩
    case measure=>first | exact HM.out | (rw[hwk];exact HM.out)
   | false =>
    have HA:Hid (abK R (aq R F) ⟨s,ro⟩ (i+1)=abK R (aq R F) ⟨s,ro⟩ i):=BR Hi.out.1 Hbb.out.symm
    go_wp2_with fail
    go_roundw
    case rel=>exact⟨i+1,m,q,c,Hi.out.1,by first | rfl | (rw[hwk];rfl) | go_num,rfl,by rw[HA.out];exact HQ.out.1,by rw[HA.out];exact H2.out.2.1,H2.out.2.2⟩
    case measure=>first | exact HM.out | (rw[hwk];exact HM.out)
  ·obtain rfl:i=R.length:=Nat.le_antisymm hi' (Nat.le_of_not_lt hi2)
   have i1:¬(R.length:Int)<(R.length:Int):=Int.lt_irrefl _
   have HF:Hid (aQ U w.heap.size (.slice q m c) (dA R (aM R (aq R F) ⟨s,ro⟩))∧w.grownBy U none):=⟨aT HQ.out.2.1 H1.out.2.1.size,aa H1.out.2.1 HQ.out.2.2⟩
   clear hi' hi2 HQ
   go_wp2_with fail
   go_ret
   exact⟨_,rfl,HF.out.1,HF.out.2⟩
theorem Bz {r n:Int} {cd:Int→Hd×List Pt} {ts:List Th} {F:List Fe} (h:r≠0):lkE r n cd ts F []=r:=mg h
theorem Cf {n:Int} {cd:Int→Hd×List Pt} {ts:List Th} {F:List Fe}:lkE 0 n cd ts F []=if (bi n cd ts F).isSome then 0 else 2:=by
 cases h:bi n cd ts F with
 | none=>rw[jG h];rfl
 | some R=>rw[eI h];rfl
theorem Ch {p:Pl} {gs:List Ent} {ts:List Th} {F:List Fe} (h:ts.length≤2048):lkE (bG p ts.length) (gs.length:Int) (atC p gs) ts F []=if eV p gs ts F then 0 else 2:=by
 unfold bG eV
 rw[if_neg (by omega),decide_eq_true h,Bool.true_and]
 cases p.shut with
 | true=>rw[if_pos rfl,Cf,Bool.true_and]
 | false=>rw[if_neg (by decide),Bz (by decide),Bool.false_and];rfl
theorem fQ (ok:Nat→Prop) (r:Nat) (v:Value) (p:Pl) (gs:List Ent) (vt vf:Value) (ts:List Th) (F:List Fe) (w:World) (B:RD ok w r v p gs) (A:thR.At w vt ts) (AF:feR.At w vf F) (hr:TrI F):Calls Tryz.prog 64 #[.pointer (some ⟨r,0,none⟩),vt,vf] w fun e w'=>e=.returned (.int .i64 (lkE (bG p ts.length) (gs.length:Int) (atC p gs) ts F []))∧w.grownBy w' none:=by
 have C1:=bU r v p w B.rj
 have C2:=nD ok r v p gs vt vf ts F w B A AF hr
 obtain⟨pt,ct,rfl⟩:=A.form
 obtain⟨pf,cf,rfl⟩:=AF.form
 clear B A AF hr
 go_enter Tryz.func64,Tryz.ntmps64
 go_wp2_with fail
 refine C1.mono ?_
 rintro e1 w1 ⟨rfl,hw1⟩
 rw[hw1]
 clear hw1 w1 C1
 by_cases h2:(2048:Int)<(ts.length:Int)
 ·have HE:Hid (lkE (bG p ts.length) (gs.length:Int) (atC p gs) ts F []=3):=by
   show _=_
   unfold bG
   rw[if_pos (by omega),Bz (by decide)]
  have d2:decide ((2048:Int)<(ts.length:Int))=true:=decide_eq_true h2
  clear h2
  go_wp2_with fail
  go_ret
  exact⟨by rw[HE.out] <;> rfl,ay _ _⟩
 ·have d2:decide ((2048:Int)<(ts.length:Int))=false:=decide_eq_false h2
  obtain⟨q,hq⟩:∃ q,q=eV p gs ts F:=⟨_,rfl⟩
  have HE:Hid (lkE (bG p ts.length) (gs.length:Int) (atC p gs) ts F []=if q then 0 else 2):=by
   show _=_
   rw[Ch (by omega),←hq]
  rw[←hq] at C2
  clear hq h2
  go_wp2_with fail
  refine C2.mono ?_
  rintro e2 w2 ⟨rfl,g2⟩
  have HG:Hid (w.grownBy w2 none):=g2
  clear C2 g2
  cases q with
  | true =>
   go_wp2_with fail
   go_ret
   exact⟨by rw[HE.out] <;> rfl,HG.out⟩
  | false =>
   go_wp2_with fail
   go_ret
   exact⟨by rw[HE.out] <;> rfl,HG.out⟩
theorem wZ {R:List Rw} {x:Int} (h:∀ r∈R,r.nu≠x):eO R x=none:=by
 unfold eO
 rw[List.findIdx?_eq_none_iff]
 intro r hr
 simpa using h r hr
theorem lY {R:List Rw} {s:Sd} (h:∀ r∈R,r.nu≠s.th):bj R s=none:=by
 unfold bj
 rw[wZ h]
theorem xt {R:List Rw} (hn:(R.map Rw.nu).Nodup) {i:Nat} (hi:i<R.length) {x:Int} (h:(R.getD i Rw.none).nu=x):eO R x=some i:=by
 unfold eO
 rw[List.findIdx?_eq_some_iff_getElem]
 refine⟨hi,by rw[←aC (d:=Rw.none) hi,h];simp,fun j hj=>?_⟩
 have hjl:j<R.length:=Nat.lt_trans hj hi
 simp only[decide_eq_true_eq]
 intro e
 have:=jt hn hjl hi (by rw[aC hjl,e,h])
 omega
theorem zX {R:List Rw} (hn:(R.map Rw.nu).Nodup) {s:Sd} {i:Nat} (hi:i<R.length) (h:(R.getD i Rw.none).nu=s.th):bj R s=if cQ (R.getD i Rw.none).ps s then some ⟨s,i⟩ else none:=by
 unfold bj
 rw[xt hn hi h]
theorem sK {ps:List Pt} {s:Sd} (h:s.pl<0):cQ ps s=false:=by unfold cQ;rw[decide_eq_false (show ¬0≤s.pl by omega)];rfl
theorem sC {ps:List Pt} {s:Sd} (h:(ps.length:Int)≤s.pl):cQ ps s=false:=by unfold cQ;rw[decide_eq_false (show ¬s.pl<(ps.length:Int) by omega),Bool.and_false];rfl
theorem xo {ps:List Pt} {s:Sd} {k:Nat} {q:Pt} (hk:ps[k]?=some q) (h:s.pl=(k:Int)):cQ ps s=(decide (q.wn=5) && bN q s.wh):=by
 have hl:=(List.getElem?_eq_some_iff.1 hk).1
 unfold cQ
 rw[h,decide_eq_true (show (0:Int)≤(k:Int) by omega),decide_eq_true (show (k:Int)<(ps.length:Int) by omega),show ((k:Int)).toNat=k by omega,List.getD_eq_getElem?_getD,hk]
 show (decide (s.wh.wn=5) && bN q s.wh)=_
 by_cases e:q=s.wh
 ·rw[e]
 ·rw[lQ e,Bool.and_false,Bool.and_false]
theorem mJ (ok:Nat→Prop) (r:Nat) (v:Value) (p:Pl) (gs:List Ent) (vt:Value) (ts:List Th) (F:List Fe) (R:List Rw) (s:Sd) (w:World) (B:RD ok w r v p gs) (A:thR.At w vt ts) (hT:Tab (gs.length:Int) (atC p gs) ts F R) (hl:ts.length≤2048):Calls Tryz.prog 138 #[.pointer (some ⟨r,0,none⟩),vt,sdv s] w fun e w'=>e=.returned (.bool (bj R s).isSome)∧w.grownBy w' none:=by
 obtain⟨pt,ct,rfl⟩:=A.form
 obtain⟨V,hV⟩:∃ V,V=w.alloc (.cells #[.int .i64 s.th,.int .i64 s.pl,.int .u8 s.wh.wn,.int .u8 s.wh.vb,.int .u8 s.wh.wm,.int .i64 s.wh.ct,.int .u8 s.wh.su,.int .u8 s.wh.tr,.int .u8 s.wh.mr,.string s.wh.nm] 64):=⟨_,rfl⟩
 have HV:Hid (SdB V w.heap.size s∧w.grownBy V none∧RD ok V r v p gs∧thR.At V (.slice pt ts.length ct) ts):=by
  have gr:w.grownBy V none:=by rw[hV];exact World.grownBy_alloc _ _ none
  exact⟨by rw[hV];exact ak _ _ _,gr,B.keep gr,A.keep gr⟩
 have HT:Hid (Tab (gs.length:Int) (atC p gs) ts F R∧ts.length≤2048):=⟨hT,hl⟩
 unfold sdv
 clear B A hT hl
 go_enter Tryz.func138,Tryz.ntmps138
 go_upto_region 1 with fail
 rw[←hV]
 obtain⟨n0,hn0⟩:∃ n0,n0=w.heap.size:=⟨_,rfl⟩
 rw[←hn0] at HV ⊢
 clear hV hn0
 have HGE:Hid (w.grownBy V none):=HV.out.2.1
 obtain⟨s0,s1,s2,s3,s4,s5,s6,s7,s8,s9⟩:=bl HV.out.1
 by_cases a1:s.th<1
 ·have d1:decide (s.th<1)=true:=decide_eq_true a1
  have HN:Hid (bj R s=none):=lY fun x hx e=>by have:=(HT.out.1.nu x hx).1;omega
  clear a1
  go_wp2_with fail
  go_ret
  exact⟨by rw[HN.out] <;> rfl,HGE.out⟩
 ·have d1:decide (s.th<1)=false:=decide_eq_false a1
  by_cases a2:(ts.length:Int)<s.th
  ·have d2:decide ((ts.length:Int)<s.th)=true:=decide_eq_true a2
   have HN:Hid (bj R s=none):=lY fun x hx e=>by have:=(HT.out.1.nu x hx).2;rw[←HT.out.1.len] at this;omega
   clear a1 a2
   go_wp2_with fail
   go_ret
   exact⟨by rw[HN.out] <;> rfl,HGE.out⟩
  ·have d2:decide ((ts.length:Int)<s.th)=false:=decide_eq_false a2
   obtain⟨z,hz⟩:∃ z:Nat,s.th=(z:Int)+1:=⟨(s.th - 1).toNat,by omega⟩
   have hzl:z<ts.length:=by omega
   obtain⟨t,ht⟩:∃ t,ts[z]?=some t:=⟨_,List.getElem?_eq_getElem hzl⟩
   have Hz:Hid (s.th=(z:Int)+1∧ts[z]?=some t):=⟨hz,ht⟩
   have z1:(z:Int)<(ts.length:Int):=by omega
   have z0:(0:Int)≤(z:Int):=by omega
   have wz:wrap64 (z:Int)=(z:Int):=by have:=HT.out.2;unfold wrap64;omega
   have wz2:IntKind.i64.wrap (z:Int)=(z:Int):=by have:=HT.out.2;rw[IntWalk.i64_in _ (by omega)]
   obtain⟨gT,oT,cT,eT,-⟩:=dw HV.out.2.2.2 hzl
   injection eT with eT eT2 eT3
   clear eT2 eT3
   subst eT
   obtain⟨t0,-,t2,-⟩:=dh (oM HV.out.2.2.2 ht)
   rw[hz] at s0 d1 d2
   clear a1 a2 hz ht hzl
   by_cases h4:t.place=4
   ·have e4:(t.place != 4)=false:=by rw[h4];rfl
    have HP:Hid (t.place=4):=h4
    clear h4
    have C2:=lv ok r v p gs t.card V HV.out.2.2.1
    unfold fO at C2
    obtain⟨h,hh⟩:∃ h,h=(atC p gs t.card).1:=⟨_,rfl⟩
    obtain⟨ps,hps⟩:∃ ps,ps=(atC p gs t.card).2:=⟨_,rfl⟩
    obtain⟨x,hx⟩:∃ x,x=atX p gs t.card:=⟨_,rfl⟩
    have Hps:Hid (ps=(atC p gs t.card).2):=hps
    rw[←hh,←hx,←hps] at C2
    unfold cv at C2
    clear hh hx hps
    go_wp2_with fail
    refine C2.mono ?_
    rintro e2 w2 ⟨u,rfl,ou,g2⟩
    obtain⟨pu,cu,rfl⟩:∃ p c,u=.slice p ps.length c:=by obtain⟨p,c,e,_⟩:=bz ou;exact⟨p,c,e⟩
    obtain⟨Z,hZ⟩:∃ Z,Z=w2.alloc (.cells #[.string h.nm,.int .u8 h.su,.int .u8 h.kd,.int .i64 h.co,.int .i64 h.po,.int .i64 h.he,.int .u16 h.tr,.bool h.tk,.slice pu ps.length cu] 111):=⟨_,rfl⟩
    have HZ:Hid (CdK Z w2.heap.size h (.slice pu ps.length cu)∧SdB Z n0 s∧w.grownBy Z none∧bY Z (.slice pu ps.length cu) ps):=by
     have g:w2.grownBy Z none:=by rw[hZ];exact World.grownBy_alloc _ _ none
     exact⟨by rw[hZ];exact ak _ _ _,ai g (ai g2 HV.out.1 (by simp)) (by simp),aa (aa HV.out.2.1 g2) g,ou.at.keep g⟩
    clear C2 ou g2 s0 s1 s2 s3 s4 s5 s6 s7 s8 s9 d1 d2 e4
    go_upto_region 4 with fail
    rw[←hZ]
    obtain⟨nc,hnc⟩:∃ nc,nc=w2.heap.size:=⟨_,rfl⟩
    rw[←hnc] at HZ ⊢
    clear hZ hnc t0 t2
    obtain⟨s0,s1,s2,s3,s4,s5,s6,s7,s8,s9⟩:=bl HZ.out.2.1
    have k8:Z.cell? ⟨nc,8,none⟩=some (.slice pu ps.length cu):=(ae HZ.out.1 8).trans rfl
    have HGZ:Hid (w.grownBy Z none):=HZ.out.2.2.1
    obtain⟨i,hi,q1,q2⟩:=yy HT.out.1 Hz.out.2 HP.out
    have HF:Hid (bj R s=if cQ ps s then some ⟨s,i⟩ else none):=by
     show _=_
     rw[zX HT.out.1.nod hi (by rw[q2,Hz.out.1])]
     have:(R.getD i Rw.none).ps=ps:=by
      obtain⟨j,u,hu,-,e⟩:=HT.out.1.row (show R.getD i Rw.none∈R by rw[aC hi];exact List.getElem_mem _)
      have hn:(R.getD i Rw.none).nu=(j:Int)+1:=by rw[e]
      obtain rfl:j=z:=by omega
      rw[Hz.out.2] at hu
      cases hu
      rw[Hps.out,e]
     rw[this]
    clear hi q1 q2
    by_cases b1:s.pl<0
    ·have c1:decide (s.pl<0)=true:=decide_eq_true b1
     have HN:Hid (bj R s=none):=by show _=_;rw[HF.out,sK b1];rfl
     clear b1
     go_wp2_with fail
     go_ret
     exact⟨by rw[HN.out] <;> rfl,HGZ.out⟩
    ·have c1:decide (s.pl<0)=false:=decide_eq_false b1
     by_cases b2:(ps.length:Int)≤s.pl
     ·have c2:decide ((ps.length:Int)≤s.pl)=true:=decide_eq_true b2
      have HN:Hid (bj R s=none):=by show _=_;rw[HF.out,sC b2];rfl
      clear b1 b2
      go_wp2_with fail
      go_ret
      exact⟨by rw[HN.out] <;> rfl,HGZ.out⟩
     ·have c2:decide ((ps.length:Int)≤s.pl)=false:=decide_eq_false b2
      obtain⟨k,hk⟩:∃ k:Nat,s.pl=(k:Int):=⟨s.pl.toNat,by omega⟩
      have hkl:k<ps.length:=by omega
      obtain⟨q,hq⟩:∃ q,ps[k]?=some q:=⟨_,List.getElem?_eq_getElem hkl⟩
      have HS:Hid (cQ ps s=(decide (q.wn=5) && bN q s.wh)):=xo hq hk
      obtain⟨gp,op,cp,ep,hpt⟩:=HZ.out.2.2.2.part (by omega)
      have P:=hpt k q hq
      injection ep with ep ep2 ep3
      clear ep2 ep3
      subst ep
      have k1:(k:Int)<(ps.length:Int):=by omega
      have k0:(0:Int)≤(k:Int):=by omega
      rw[hk] at s1 c1 c2
      obtain⟨p0,p1,p2,p3,p4,p5,p6,p7⟩:=P
      obtain⟨Y,hY⟩:∃ Y,Y=Z.alloc (.cells #[.int .u8 q.wn,.int .u8 q.vb,.int .u8 q.wm,.int .i64 q.ct,.int .u8 q.su,.int .u8 q.tr,.int .u8 q.mr,.string q.nm] 62):=⟨_,rfl⟩
      have HY:Hid (PtX Y Z.heap.size q∧SdB Y n0 s∧w.grownBy Y none):=by
       have g:Z.grownBy Y none:=by rw[hY];exact World.grownBy_alloc _ _ none
       exact⟨by rw[hY];exact ak _ _ _,ai g HZ.out.2.1 (by simp),aa HZ.out.2.2.1 g⟩
      clear b1 b2 hk hkl hq hpt
      go_upto_region 7 with fail
      rw[←hY]
      obtain⟨n1,hn1⟩:∃ n1,n1=Z.heap.size:=⟨_,rfl⟩
      rw[←hn1] at HY ⊢
      clear hY hn1 p0 p1 p2 p3 p4 p5 p6 p7 s0 s1 s2 s3 s4 s5 s6 s7 s8 s9 c1 c2 k8
      obtain⟨x0,x1,x2,x3,x4,x5,x6,x7⟩:=qm HY.out.1
      obtain⟨-,-,s2,s3,s4,s5,s6,s7,s8,s9⟩:=bl HY.out.2.1
      have CS:=tX q s.wh Y
      unfold pv at CS
      by_cases w5:q.wn=5
      ·have e5:(q.wn == 5)=true:=by rw[w5];rfl
       have HR:Hid ((bj R s).isSome=bN q s.wh):=by
        show _=_
        rw[HF.out,HS.out,decide_eq_true w5,Bool.true_and]
        cases bN q s.wh <;> rfl
       clear w5
       go_wp2_with fail
       refine CS.mono ?_
       rintro e3 w3 ⟨rfl,g3⟩
       have HG3:Hid (w.grownBy w3 none):=aa HY.out.2.2 g3
       clear CS g3
       go_wp2_with fail
       go_ret
       exact⟨by rw[HR.out] <;> rfl,HG3.out⟩
      ·have e5:(q.wn == 5)=false:=by simpa using w5
       have HR:Hid ((bj R s).isSome=false):=by
        show _=_
        rw[HF.out,HS.out,decide_eq_false w5,Bool.false_and]
        rfl
       clear w5
       go_wp2_with fail
       go_ret
       exact⟨by rw[HR.out] <;> rfl,HY.out.2.2⟩
   ·have e4:(t.place != 4)=true:=by simpa using h4
    have HN:Hid (bj R s=none):=lY fun x hx e=>by
     obtain⟨j,u,hu,hu4,hn,-⟩:=HT.out.1.from hx
     obtain rfl:j=z:=by have:=Hz.out.1;omega
     rw[Hz.out.2] at hu
     cases hu
     exact h4 hu4
    clear h4
    go_wp2_with fail
    go_ret
    exact⟨by rw[HN.out] <;> rfl,HGE.out⟩
end Go.Proofs.YtjmepebbcnhalaaGreat
