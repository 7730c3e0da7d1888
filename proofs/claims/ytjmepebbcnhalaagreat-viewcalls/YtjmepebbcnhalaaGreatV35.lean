import Derived.Test.YtjmepebbcnhalaaGreatV34
namespace Go.Proofs.YtjmepebbcnhalaaGreat
set_option maxRecDepth 100000
set_option maxHeartbeats 4000000
open Go.RowKit Go.Shelf
variable {wh:Pt} {f:Fe} {ho n x r:Int} {w:World} {g c i base:Nat} {X F:List Fe} {cd:Int→Hd×List Pt} {ts:List Th} {R:List Rw} {e:Se} {p:Pl} {gs:List Ent} {s:Sd} {ps:List Pt}
def kJ (kd:Int) (t:Th):Bool:=decide (t.place=4) && decide (kd=1)
theorem tj (ok:Nat→Prop) (r:Nat) (v:Value) (p:Pl) (gs:List Ent) (t:Th) (w:World) (B:RD ok w r v p gs):Calls Tryz.prog 263 #[.pointer (some ⟨r,0,none⟩),thv t] w fun e w'=>e=.returned (.bool (kJ (atC p gs t.card).1.kd t))∧w.grownBy w' none:=by
 obtain⟨V,hV⟩:=Qe (w.alloc (.cells #[.int .i64 t.card,.int .i64 t.owner,.int .u8 t.place,.int .i64 t.stamp,.int .i64 t.hurt,.int .i64 t.m0,.int .i64 t.m1,.int .i64 t.m2,.int .i64 t.m3,.int .i64 t.done,.bool t.fresh] 120))
 have HV:Hid (ThB V w.heap.size t∧w.grownBy V none):=⟨by rw[hV];exact ak _ _ _,by rw[hV];exact QG⟩
 have C2:=jV ok r v p gs t.card V (B.keep HV.out.2)
 unfold gh at C2
 obtain⟨h,hh⟩:=Qe ((atC p gs t.card).1)
 obtain⟨x,hx⟩:=Qe (atX p gs t.card)
 rw[←hh,←hx] at C2
 rw[←hh]
 unfold cv at C2
 unfold thv
 clear B hh hx
 go_enter Tryz.func263,Tryz.ntmps263
 go_upto_region 1 with fail
 rw[←hV]
 obtain⟨n0,hn0⟩:=Qe (w.heap.size)
 rw[←hn0] at HV ⊢
 clear hV hn0
 obtain⟨b0,b1,b2,b3,b4,b5,b6,b7,b8,b9,b10⟩:=cW HV.out.1
 go_wp2_with fail
 refine C2.mono ?_
 rintro e2 w2 ⟨u,rfl,ou,g2⟩
 obtain⟨pu,cu,mu,rfl⟩:∃ p c m,u=.slice p m c:=by obtain⟨p,c,e,_⟩:=br ou;exact⟨p,c,_,e⟩
 obtain⟨Z,hZ⟩:=Qe (w2.alloc (.cells #[.string h.nm,.int .u8 h.su,.int .u8 h.kd,.int .i64 h.co,.int .i64 h.po,.int .i64 h.he,.int .u16 h.tr,.bool h.tk,.slice pu mu cu] 111))
 have HZ:Hid (CdK Z w2.heap.size h (.slice pu mu cu)∧ThB Z n0 t∧w.grownBy Z none):=by
  have g:w2.grownBy Z none:=by rw[hZ];exact QG
  exact⟨by rw[hZ];exact ak _ _ _,ag g (ag g2 HV.out.1 (by simp)) (by simp),ae (ae HV.out.2 g2) g⟩
 clear C2 ou g2 b0 b1 b2 b3 b4 b5 b6 b7 b8 b9 b10
 go_upto_region 2 with fail
 rw[←hZ]
 obtain⟨nc,hnc⟩:=Qe (w2.heap.size)
 rw[←hnc] at HZ ⊢
 clear hZ hnc
 obtain⟨b0,b1,b2,b3,-⟩:=cW HZ.out.2.1
 have k2:Z.cell? ⟨nc,2,none⟩=some (.int .u8 h.kd):=(aa HZ.out.1 2).trans rfl
 by_cases h4:t.place=4
 ·have e1:(t.place == 4)=true:=by rw[h4];rfl
  by_cases h1:h.kd=1
  ·have e2:(h.kd == 1)=true:=by rw[h1];rfl
   have HU:Hid (kJ h.kd t=true):=by show _=_;unfold kJ;rw[Qy h4,Qy h1];rfl
   clear h4 h1
   go_wp2_with fail
   go_ret
   exact⟨by rw[HU.out] <;> rfl,HZ.out.2.2⟩
  ·have e2:(h.kd == 1)=false:=by simpa using h1
   have HU:Hid (kJ h.kd t=false):=by show _=_;unfold kJ;rw[Qx h1,Bool.and_false]
   clear h4 h1
   go_wp2_with fail
   go_ret
   exact⟨by rw[HU.out] <;> rfl,HZ.out.2.2⟩
 ·have e1:(t.place == 4)=false:=by simpa using h4
  have HU:Hid (kJ h.kd t=false):=by show _=_;unfold kJ;rw[Qx h4,Bool.false_and]
  clear h4
  go_wp2_with fail
  go_ret
  exact⟨by rw[HU.out] <;> rfl,HZ.out.2.2⟩
theorem AB {own:Bool} {kd:Int} (h:wh.wm=4):dc wh own kd f ho=own:=by unfold dc;rw[if_pos h]
theorem zy {own:Bool} {kd:Int} (h:¬wh.wm=4) (hk:¬kd=1):dc wh own kd f ho=false:=by unfold dc;rw[if_neg h,if_pos hk]
def wW (wm:Int) (wh:Pt) (own:Bool) (f:Fe) (ho:Int):Bool:=if wm=5 then decide (f.ho=ho) else if wm=8 then decide (f.ho=ho) && !own else if wm=6 then !decide (f.ho=ho) else if wm=7 then true else if wm=9 then decide (f.su=wh.su) else if wm=10 then kh f.tr wh.tr else false
theorem sZ {own:Bool} {kd:Int} (h:¬wh.wm=4) (hk:kd=1):dc wh own kd f ho=wW wh.wm wh own f ho:=by unfold dc wW;rw[if_neg h,if_neg (by simpa using hk)]
theorem kT {off n:Nat} (h:feR.At w (.slice (some ⟨g,off,none⟩) n c) X) {i:Nat} {x:Fe} (hx:X[i]?=some x):w.rangeAt g (off+i*5) (fec x):=by
 obtain⟨hi,e⟩:=Qh hx
 obtain⟨g',off',cap,e1,r⟩:=dA h hi
 injection e1 with e1 _ _
 injection e1 with e1
 injection e1 with ea eb
 rw[ea,eb,←e]
 exact r
theorem vq (ok:Nat→Prop) (r:Nat) (v:Value) (p:Pl) (gs:List Ent) (vt vf:Value) (ts:List Th) (F:List Fe) (s:Sd) (j z:Nat) (t:Th) (f g:Fe) (own:Bool) (w:World) (B:RD ok w r v p gs) (A:thR.At w vt ts) (AF:feR.At w vf F) (hj:ts[j]?=some t) (h4:t.place=4) (hf:F[j]?=some f) (hg:F[z]?=some g) (hz:s.th=(z:Int)+1) (ho:(((j:Int)+1) == s.th)=own) (hl:ts.length≤2048∧F.length≤2048):Calls Tryz.prog 217 #[.pointer (some ⟨r,0,none⟩),vt,vf,sdv s,.int .i64 ((j:Int)+1)] w fun e w'=>e=.returned (.bool (dc s.wh own (atC p gs t.card).1.kd f g.ho))∧w.grownBy w' none:=by
 obtain⟨pt,ct,rfl⟩:=A.form
 obtain⟨pf,cf,rfl⟩:=AF.form
 have hjl:j<ts.length:=(Qh hj).1
 have hjf:j<F.length:=(Qh hf).1
 have hzf:z<F.length:=(Qh hg).1
 obtain⟨V,hV⟩:=Qe (w.alloc (.cells #[.int .i64 s.th,.int .i64 s.pl,.int .u8 s.wh.wn,.int .u8 s.wh.vb,.int .u8 s.wh.wm,.int .i64 s.wh.ct,.int .u8 s.wh.su,.int .u8 s.wh.tr,.int .u8 s.wh.mr,.string s.wh.nm] 64))
 have HV:Hid (SdB V w.heap.size s∧w.grownBy V none∧RD ok V r v p gs∧thR.At V (.slice pt ts.length ct) ts∧feR.At V (.slice pf F.length cf) F):=by
  have gr:w.grownBy V none:=by rw[hV];exact QG
  exact⟨by rw[hV];exact ak _ _ _,gr,B.keep gr,A.keep gr,AF.keep gr⟩
 have HJ:Hid (ts[j]?=some t∧F[j]?=some f∧F[z]?=some g∧t.place=4):=⟨hj,hf,hg,h4⟩
 obtain⟨kd,hkd⟩:=Qe ((atC p gs t.card).1.kd)
 have CU:=tj ok r v p gs t V HV.out.2.2.1
 rw[←hkd] at CU
 rw[show kJ kd t=decide (kd=1) from by unfold kJ;rw[Qy h4,Bool.true_and]] at CU
 rw[←hkd]
 have j1:((j:Int))<(ts.length:Int):=Int.ofNat_lt.2 hjl
 have j2:((j:Int))<(F.length:Int):=Int.ofNat_lt.2 hjf
 have z1:((z:Int))<(F.length:Int):=Int.ofNat_lt.2 hzf
 have wj:wrap64 (j:Int)=(j:Int):=by unfold wrap64;omega
 have wz:wrap64 (z:Int)=(z:Int):=by unfold wrap64;omega
 have wj2:IntKind.i64.wrap (j:Int)=(j:Int):=by rw[IntWalk.i64_in _ (by omega)]
 have wz2:IntKind.i64.wrap (z:Int)=(z:Int):=by rw[IntWalk.i64_in _ (by omega)]
 obtain⟨gT,oT,cT,eT,-⟩:=bO A hjl
 injection eT with eT eT2 eT3
 clear eT2 eT3
 subst eT
 obtain⟨gF,oF,cF,eF,-⟩:=dA AF hjf
 injection eF with eF eF2 eF3
 clear eF2 eF3
 subst eF
 have Hz:Hid (s.th=(z:Int)+1):=hz
 unfold sdv
 rw[hz] at ho ⊢
 unfold thv at CU
 clear B A AF hj h4 hf hg hl hkd hjl hjf hzf hz
 go_enter Tryz.func217,Tryz.ntmps217
 go_upto_region 1 with fail
 rw[show w.alloc (.cells #[.int .i64 ((z:Int)+1),.int .i64 s.pl,.int .u8 s.wh.wn,.int .u8 s.wh.vb,.int .u8 s.wh.wm,.int .i64 s.wh.ct,.int .u8 s.wh.su,.int .u8 s.wh.tr,.int .u8 s.wh.mr,.string s.wh.nm] 64)=V from by rw[hV,Hz.out]]
 obtain⟨n0,hn0⟩:=Qe (w.heap.size)
 rw[←hn0] at HV ⊢
 clear hV hn0
 obtain⟨s0,-,-,-,s4,-,s6,s7,-⟩:=bS HV.out.1
 rw[Hz.out] at s0
 by_cases w4:s.wh.wm=4
 ·have e4:(s.wh.wm == 4)=true:=by rw[w4];rfl
  have HR:Hid (dc s.wh own kd f g.ho=own):=AB w4
  clear w4
  go_wp2_with fail
  go_ret
  exact⟨by rw[HR.out] <;> rfl,HV.out.2.1⟩
 ·have e4:(s.wh.wm == 4)=false:=by simpa using w4
  obtain⟨t0,t1,t2,t3,t4,t5,t6,t7,t8,t9,t10⟩:=bz (qS HV.out.2.2.2.1 HJ.out.1)
  by_cases hk:kd=1
  ·rw[Qy hk] at CU
   have HR:Hid (dc s.wh own kd f g.ho=wW s.wh.wm s.wh own f g.ho):=sZ w4 hk
   clear w4 hk
   go_wp2_with fail
   refine CU.mono ?_
   rintro e1 w1 ⟨rfl,g1⟩
   obtain⟨Y,hY⟩:=Qe (w1.alloc (.cells #[.int .i64 f.ho,.int .u8 f.su,.int .u16 f.tr,.int .i64 f.po,.int .i64 f.he] 122))
   have HY:Hid (FeB Y w1.heap.size f∧SdB Y n0 s∧w.grownBy Y none∧feR.At Y (.slice (some ⟨gF,oF,none⟩) F.length cf) F):=by
    have gr:w1.grownBy Y none:=by rw[hY];exact QG
    exact⟨by rw[hY];exact ak _ _ _,ag gr (ag g1 HV.out.1 (by simp)) (by simp),ae (ae HV.out.2.1 g1) gr,(HV.out.2.2.2.2.keep g1).keep gr⟩
   obtain⟨f0,f1,f2,f3,f4⟩:=bm (kT (HV.out.2.2.2.2.keep g1) HJ.out.2.1)
   clear CU g1 t0 t1 t2 t3 t4 t5 t6 t7 t8 t9 t10 s0 s4 s6 s7 e4
   go_upto_region 6 with fail
   rw[←hY]
   obtain⟨n1,hn1⟩:=Qe (w1.heap.size)
   rw[←hn1] at HY ⊢
   clear hY hn1 f0 f1 f2 f3 f4
   obtain⟨f0,f1,f2,-⟩:=jH HY.out.1
   obtain⟨g0,-⟩:=bm (kT HY.out.2.2.2 HJ.out.2.2.1)
   obtain⟨s0,-,-,-,s4,-,s6,s7,-⟩:=bS HY.out.2.1
   rw[Hz.out] at s0
   have HGE:Hid (w.grownBy Y none):=HY.out.2.2.1
   obtain⟨wm,hwm⟩:=Qe (s.wh.wm)
   rw[←hwm] at HR s4
   clear hwm HY HV
   by_cases w5:wm=5
   ·subst w5
    have HQ:Hid (dc s.wh own kd f g.ho=(f.ho == g.ho)):=by show _=_;rw[HR.out];rfl
    go_wp2_with fail
    go_ret
    exact⟨by rw[HQ.out] <;> rfl,HGE.out⟩
   ·have e5:(wm == 5)=false:=by simpa using w5
    by_cases w8:wm=8
    ·subst w8
     by_cases q:f.ho=g.ho
     ·have eq:(f.ho == g.ho)=true:=by rw[q];exact beq_self_eq_true _
      have hn:(((j:Int)+1) != ((z:Int)+1))=!own:=by rw[bne,ho]
      have HQ:Hid (dc s.wh own kd f g.ho=!own):=by show _=_;rw[HR.out];show (decide (f.ho=g.ho) && !own)=_;rw[Qy q,Bool.true_and]
      clear q w5
      go_wp2_with fail
      go_ret
      exact⟨by rw[HQ.out] <;> rfl,HGE.out⟩
     ·have eq:(f.ho == g.ho)=false:=by simpa using q
      have HQ:Hid (dc s.wh own kd f g.ho=false):=by show _=_;rw[HR.out];show (decide (f.ho=g.ho) && !own)=_;rw[Qx q,Bool.false_and]
      clear q w5
      go_wp2_with fail
      go_ret
      exact⟨by rw[HQ.out] <;> rfl,HGE.out⟩
    ·have e8:(wm == 8)=false:=by simpa using w8
     by_cases w6:wm=6
     ·subst w6
      have HQ:Hid (dc s.wh own kd f g.ho=(f.ho != g.ho)):=by show _=_;rw[HR.out];rfl
      clear w5 w8
      go_wp2_with fail
      go_ret
      exact⟨by rw[HQ.out] <;> rfl,HGE.out⟩
     ·have e6:(wm == 6)=false:=by simpa using w6
      by_cases w7:wm=7
      ·subst w7
       have HQ:Hid (dc s.wh own kd f g.ho=true):=by show _=_;rw[HR.out];rfl
       clear w5 w8 w6
       go_wp2_with fail
       go_ret
       exact⟨by rw[HQ.out] <;> rfl,HGE.out⟩
      ·have e7:(wm == 7)=false:=by simpa using w7
       by_cases w9:wm=9
       ·subst w9
        have HQ:Hid (dc s.wh own kd f g.ho=(f.su == s.wh.su)):=by show _=_;rw[HR.out];rfl
        clear w5 w8 w6 w7
        go_wp2_with fail
        go_ret
        exact⟨by rw[HQ.out] <;> rfl,HGE.out⟩
       ·have e9:(wm == 9)=false:=by simpa using w9
        by_cases w10:wm=10
        ·subst w10
         have HQ:Hid (dc s.wh own kd f g.ho=kh f.tr s.wh.tr):=by show _=_;rw[HR.out];rfl
         have CH:=qe f.tr s.wh.tr Y
         clear w5 w8 w6 w7 w9
         go_wp2_with fail
         refine CH.mono ?_
         rintro e3 w3 ⟨rfl,hw3⟩
         rw[hw3]
         clear hw3 w3 CH
         go_wp2_with fail
         go_ret
         exact⟨by rw[HQ.out] <;> rfl,HGE.out⟩
        ·have e10:(wm == 10)=false:=by simpa using w10
         have HQ:Hid (dc s.wh own kd f g.ho=false):=by
          show _=_
          rw[HR.out]
          unfold wW
          rw[if_neg w5,if_neg w8,if_neg w6,if_neg w7,if_neg w9,if_neg w10]
         clear w5 w8 w6 w7 w9 w10
         go_wp2_with fail
         go_ret
         exact⟨by rw[HQ.out] <;> rfl,HGE.out⟩
  ·rw[Qx hk] at CU
   have HR:Hid (dc s.wh own kd f g.ho=false):=zy w4 hk
   clear w4 hk
   go_wp2_with fail
   refine CU.mono ?_
   rintro e1 w1 ⟨rfl,g1⟩
   have HG1:Hid (w.grownBy w1 none):=ae HV.out.2.1 g1
   clear CU g1
   go_wp2_with fail
   go_ret
   exact⟨by rw[HR.out] <;> rfl,HG1.out⟩
theorem Tab.ab (h:Tab n cd ts F R) {s:Sd} {ro i:Nat} (hr:ro<R.length) (hs:(R.getD ro Rw.none).nu=s.th) (hi:i<R.length):∃ (j z:Nat) (t:Th) (f g:Fe) (own:Bool),ts[j]?=some t∧t.place=4∧F[j]?=some f∧F[z]?=some g∧s.th=(z:Int)+1∧(((j:Int)+1) == s.th)=own∧(R.getD i Rw.none).nu=(j:Int)+1∧dc s.wh own (cd t.card).1.kd f g.ho=dq R (aq R F) ⟨s,ro⟩ i:=by
 obtain⟨j,t,ht,h4,e⟩:=h.row (show R.getD i Rw.none∈R by rw[aB hi];exact List.getElem_mem _)
 obtain⟨z,u,hu,-,e2⟩:=h.row (show R.getD ro Rw.none∈R by rw[aB hr];exact List.getElem_mem _)
 have hj:j<F.length:=by rw[←h.len];exact(Qh ht).1
 have hz:z<F.length:=by rw[←h.len];exact(Qh hu).1
 have nj:(R.getD i Rw.none).nu=(j:Int)+1:=by rw[e]
 have nz:(R.getD ro Rw.none).nu=(z:Int)+1:=by rw[e2]
 have hown:(((j:Int)+1) == s.th)=decide (i=ro):=by
  rw[←hs,←nj]
  by_cases q:i=ro
  ·subst q;rw[Qy rfl];exact beq_self_eq_true _
  ·rw[Qx q]
   exact Bool.eq_false_iff.2 fun y=>q (jM h.nod hi hr (by simpa using y))
 refine⟨j,z,t,F[j],F[z],decide (i=ro),ht,h4,Qg hj,Qg hz,by rw[←hs,nz],hown,nj,?_⟩
 unfold dq
 have p1:(aq R F).getD i Fe.none=F[j]:=by
  unfold aq
  rw[ig _ _ _ Rw.none _ hi,nj,toN,aB hj]
 have p2:(aq R F).getD ro Fe.none=F[z]:=by
  unfold aq
  rw[ig _ _ _ Rw.none _ hr,nz,toN,aB hz]
 rw[p1,p2,show (R.getD i Rw.none).h.kd=(cd t.card).1.kd from by rw[e]]
theorem so (hi:i<R.length):(aH R F e).getD i false=dq R F e i:=by
 unfold aH dH
 rw[List.getD_eq_getElem?_getD,List.getElem?_map,List.getElem?_range hi]
 rfl
def abK (R:List Rw) (F:List Fe) (e:Se) (k:Nat):List Int:=fM R (aH R F e) k
theorem Dj (hi:i<R.length) (h:dq R F e i=true) (hx:(R.getD i Rw.none).nu=x):abK R F e (i+1)=abK R F e i++[x]:=by
 unfold abK
 rw[sE (by rw[so hi,h]),hx]
theorem Eu (hi:i<R.length) (h:dq R F e i=false):abK R F e (i+1)=abK R F e i:=by
 unfold abK
 rw[xJ (by rw[so hi,h])]
theorem Cw (R:List Rw) (F:List Fe) (e:Se) (k:Nat):(abK R F e k).length≤k:=gW _ _ _
theorem jp {m:Nat} {p:Option Addr} {l:List Int} (h:aV w base (.slice p m c) l) {j:Nat} (hj:j<l.length):∃ g,p=some ⟨g,0,none⟩∧w.cell? ⟨g,j,none⟩=some (.int .i64 (l.getD j 0)):=by
 obtain⟨g,c',e,_,_,_,_,hc⟩:=cH h (by omega)
 injection e with e _ _
 refine⟨g,e,(hc j (by omega)).1.trans ?_⟩
 unfold ints
 rw[List.getElem?_map,Qg hj,Option.map_some,aB hj]
theorem ip (ok:Nat→Prop) (r:Nat) (v:Value) (p:Pl) (gs:List Ent) (vt vf:Value) (ts:List Th) (F:List Fe) (R:List Rw) (s:Sd) (ro:Nat) (w:World) (B:RD ok w r v p gs) (A:thR.At w vt ts) (AF:feR.At w vf F) (hT:Tab (gs.length:Int) (atC p gs) ts F R) (hr:ro<R.length) (hs:(R.getD ro Rw.none).nu=s.th) (hl:ts.length≤2048):Calls Tryz.prog 148 #[.pointer (some ⟨r,0,none⟩),vt,vf,sdv s] w fun e w'=>∃ v,e=.returned v∧aV w' w.heap.size v (cJ R (aH R (aq R F) ⟨s,ro⟩))∧w.grownBy w' none:=by
 obtain⟨i0,hi,hz0,hz1,hz2⟩:=info_parts Tryz.linfo3
 obtain⟨pt,ct,rfl⟩:=A.form
 obtain⟨pf,cf,rfl⟩:=AF.form
 obtain⟨V,hV⟩:=Qe (w.alloc (.cells #[.int .i64 s.th,.int .i64 s.pl,.int .u8 s.wh.wn,.int .u8 s.wh.vb,.int .u8 s.wh.wm,.int .i64 s.wh.ct,.int .u8 s.wh.su,.int .u8 s.wh.tr,.int .u8 s.wh.mr,.string s.wh.nm] 64))
 have HV:Hid (SdB V w.heap.size s∧w.grownBy V none∧RD ok V r v p gs∧thR.At V (.slice pt ts.length ct) ts∧feR.At V (.slice pf F.length cf) F):=by
  have gr:w.grownBy V none:=by rw[hV];exact QG
  exact⟨by rw[hV];exact ak _ _ _,gr,B.keep gr,A.keep gr,AF.keep gr⟩
 have HT:Hid (Tab (gs.length:Int) (atC p gs) ts F R∧ro<R.length∧(R.getD ro Rw.none).nu=s.th∧ts.length≤2048):=⟨hT,hr,hs,hl⟩
 have CO:=nO _ _ _ ts F R V HV.out.2.2.2.1 hT hl
 unfold sdv
 clear B A AF hT hr hs hl
 go_enter Tryz.func148,Tryz.ntmps148
 go_upto_region 1 with fail
 rw[←hV]
 obtain⟨n0,hn0⟩:=Qe (w.heap.size)
 have Hn0:Hid (n0=w.heap.size):=hn0
 rw[←hn0] at HV ⊢
 clear hV hn0
 go_wp2_with fail
 refine CO.mono ?_
 rintro e1 w1 ⟨v1,rfl,o1,g1⟩
 obtain⟨pl,cl,ev⟩:=aV.form o1
 rw[List.length_map] at ev
 subst ev
 have H1:Hid (aV w1 V.heap.size (.slice pl R.length cl) (R.map Rw.nu)∧w.grownBy w1 none∧SdB w1 n0 s∧RD ok w1 r v p gs∧thR.At w1 (.slice pt ts.length ct) ts∧feR.At w1 (.slice pf F.length cf) F):=⟨o1,ae HV.out.2.1 g1,ag g1 HV.out.1 (by simp),HV.out.2.2.1.keep g1,HV.out.2.2.2.1.keep g1,HV.out.2.2.2.2.keep g1⟩
 clear CO o1 g1 HV
 go_wp2_with fail
 go_loopw [9,11] (fun v y wr=>∃ (i m:Nat) (q:Option Addr) (c:Nat),i≤R.length∧y=.int .i64 (i:Int)∧v=.slice q m c∧Hid (m=(abK R (aq R F) ⟨s,ro⟩ i).length∧aV wr w1.heap.size (.slice q m c) (abK R (aq R F) ⟨s,ro⟩ i)∧w1.grownBy wr none)) (fun _ y _=>R.length - (intOf y).toNat)
 case atStart=>exact⟨0,0,none,0,Q0 _,rfl,rfl,rfl,⟨rfl,Or.inl ⟨rfl,rfl⟩⟩,ay _ _⟩
 case round =>
  obtain⟨i,m,q,c,hi',rfl,rfl,HQ⟩:=hrel
  obtain⟨U,hU⟩:=Qe (wr)
  subst hU
  by_cases hi2:i<R.length
  ·have i1:(i:Int)<(R.length:Int):=Int.ofNat_lt.2 hi2
   have hwk:=aK (k:=i) (Ql (Nat.le_of_lt hi2) (Ql HT.out.1.few (by decide)))
   have HM:Hid (R.length - (intOf (.int .i64 ((i:Int)+1))).toNat<R.length - (intOf (.int .i64 (i:Int))).toNat):=bj hi2
   obtain⟨j,z,t,f,g,own,ht,h4,hf,hg,hz,ho,hn,hm⟩:=HT.out.1.ab HT.out.2.1 HT.out.2.2.1 hi2
   have HU:Hid (aV U V.heap.size (.slice pl R.length cl) (R.map Rw.nu)∧w.grownBy U none∧SdB U n0 s∧RD ok U r v p gs∧thR.At U (.slice pt ts.length ct) ts∧feR.At U (.slice pf F.length cf) F):=⟨aw H1.out.1 HQ.out.2.2,ae H1.out.2.1 HQ.out.2.2,ag HQ.out.2.2 H1.out.2.2.1 (by simp),H1.out.2.2.2.1.keep HQ.out.2.2,H1.out.2.2.2.2.1.keep HQ.out.2.2,H1.out.2.2.2.2.2.keep HQ.out.2.2⟩
   have hfl:ts.length≤2048∧F.length≤2048:=⟨HT.out.2.2.2,by rw[←HT.out.1.len];exact HT.out.2.2.2⟩
   have CM:=vq ok r v p gs _ _ ts F s j z t f g own U.drew (HU.out.2.2.2.1.keep (ai _)) (HU.out.2.2.2.2.1.keep (ai _)) (HU.out.2.2.2.2.2.keep (ai _)) ht h4 hf hg hz ho hfl
   rw[hm] at CM
   unfold sdv at CM
   obtain⟨gl,ep,cl0⟩:=jp HU.out.1 (j:=i) (by rw[List.length_map];exact hi2)
   subst ep
   rw[ig _ _ _ Rw.none _ hi2,hn] at cl0
   obtain⟨s0,s1,s2,s3,s4,s5,s6,s7,s8,s9⟩:=bS HU.out.2.2.1
   have Hi:Hid (i<R.length∧(R.getD i Rw.none).nu=(j:Int)+1):=⟨hi2,hn⟩
   obtain⟨bb,hbb⟩:=Qe (dq R (aq R F) ⟨s,ro⟩ i)
   have Hbb:Hid (bb=dq R (aq R F) ⟨s,ro⟩ i):=hbb
   rw[←hbb] at CM
   clear hi' hi2 ht h4 hf hg hz ho hn hm hfl hbb
   go_upto_region 6 with fail
   refine wp_region_held_drew (S:=fun w'=>U.grownBy w' none) (by kernel_rfl) (ai _) (fun hHeld=>?_)
   refine QZ 0 rfl ?_
   go_frame
   refine QZ 1 rfl ?_
   go_frame
   refine QZ 2 rfl ?_
   go_frame
   refine QT 3 rfl (by intro w0 hSw;have s0:=QK hSw s0;have s1:=QK hSw s1;have s2:=QK hSw s2;have s3:=QK hSw s3;have s4:=QK hSw s4;have s5:=QK hSw s5;have s6:=QK hSw s6;have s7:=QK hSw s7;have s8:=QK hSw s8;have s9:=QK hSw s9;go_simp;try with_reducible rfl) ?_
   go_frame
   refine QZ 4 rfl ?_
   go_frame
   refine QZ 5 rfl ?_
   go_frame
   refine QZ 6 rfl ?_
   go_frame
   refine QT 7 rfl (by intro w0 hSw;have cl0:=QK hSw cl0;go_simp;try with_reducible rfl) ?_
   go_frame
   refine QR 8 rfl (fun K hK=>?_)
   go_simp
   go_at_call 217
   refine(CM).mono ?_
   rintro e2 w2 ⟨rfl,g2⟩
   have HG2:Hid (U.grownBy w2 none):=ae (ai _) g2
   clear CM g2
   refine hK.out _ _ (HG2.out) (fun hHeld2=>?_)
   clear hK K
   (try go_frame)
   refine QD ?_
   have H2:Hid (aV w2 V.heap.size (.slice (some ⟨gl,0,none⟩) R.length cl) (R.map Rw.nu)∧aV w2 w1.heap.size (.slice q m c) (abK R (aq R F) ⟨s,ro⟩ i)∧w1.grownBy w2 none):=⟨aw HU.out.1 HG2.out,aw HQ.out.2.1 HG2.out,ae HQ.out.2.2 HG2.out⟩
   have cl1:=HG2.out.cell cl0 (by simp)
   clear s0 s1 s2 s3 s4 s5 s6 s7 s8 s9 hHeld hHeld2 cl0 HU HG2
   cases bb with
   | true =>
    have HA:Hid (abK R (aq R F) ⟨s,ro⟩ (i+1)=abK R (aq R F) ⟨s,ro⟩ i++[(j:Int)+1]):=Dj Hi.out.1 Hbb.out.symm Hi.out.2
    have HO:Hid (w2.ownsRow w1.heap.size 3 1 (.slice q m c) m (ints (abK R (aq R F) ⟨s,ro⟩ i))):=by
     have h9:=H2.out.2.1
     unfold aV at h9
     rw[←HQ.out.1] at h9
     exact h9
    have HLn:Hid (m+1≤maxLen∧(m+1)*8≤140737488355328∧w1.heap.size≤(w2.alloc (.cells #[.int .i64 ((j:Int)+1)] 3)).heap.size):=by
     have h8:=Cw R (aq R F) ⟨s,ro⟩ i
     have h7:=HQ.out.1
     have h6:=HT.out.1.few
     have h5:=Hi.out.1
     exact⟨by unfold maxLen;omega,by omega,Ql H2.out.2.2.size (World.grownBy_alloc w2 (.cells #[.int .i64 ((j:Int)+1)] 3) none).size⟩
    have HSr:Hid (Src (w2.alloc (.cells #[.int .i64 ((j:Int)+1)] 3)) (.slice (some ⟨w2.heap.size,0,none⟩) 1 1) 1 1 (ints [(j:Int)+1])):=⟨_,_,rfl,rfl,fun _=>⟨_,rfl,mJ w2 _⟩⟩
    go_wp2_with (at_builtin;refine bE (by rfl) (.tmp 29) (.tmp 34) 143 rfl w1.heap.size 3 i0 _ 1 8 Tryz.underlying143 hi hz0 hz1 hz2 rfl (by decide) _ m (ints (abK R (aq R F) ⟨s,ro⟩ i)) rfl (World.ownsRow.alloc HO.out _) _ 1 (ints [(j:Int)+1]) rfl HSr.out (lr _) HLn.out.1 HLn.out.2.1 HLn.out.2.2 ?_;intro v9 w9 o9 g9 _;obtain⟨pv,kv,rfl,-⟩:=br o9;have HO9:Hid _:=o9;have HG9:Hid _:=g9;clear o9 g9)
    have HZ:Hid (m+1=(abK R (aq R F) ⟨s,ro⟩ (i+1)).length∧aV w9 w1.heap.size (.slice pv (m+1) kv) (abK R (aq R F) ⟨s,ro⟩ (i+1))∧w1.grownBy w9 none):=by
     refine⟨by rw[HA.out,Qa,←HQ.out.1];rfl,?_,ar (ae H2.out.2.2 (World.grownBy_alloc w2 (.cells #[.int .i64 ((j:Int)+1)] 3) none)) HG9.out (fun y e=>(World.ownsRow.lt (World.ownsRow.alloc HO.out (.cells #[.int .i64 ((j:Int)+1)] 3)) y e).1)⟩
     rw[HA.out]
     exact lq HO9.out HQ.out.1
    go_roundw
    case rel=>exact⟨i+1,m+1,pv,kv,Hi.out.1,by first | rfl | (rw[hwk];rfl) | go_num,rfl,HZ.out⟩
    case measure=>first | exact HM.out | (rw[hwk];exact HM.out)
   | false =>
    have HA:Hid (abK R (aq R F) ⟨s,ro⟩ (i+1)=abK R (aq R F) ⟨s,ro⟩ i):=Eu Hi.out.1 Hbb.out.symm
    go_wp2_with fail
    go_roundw
    case rel=>exact⟨i+1,m,q,c,Hi.out.1,by first | rfl | (rw[hwk];rfl) | go_num,rfl,by rw[HA.out];exact HQ.out.1,by rw[HA.out];exact H2.out.2.1,H2.out.2.2⟩
    case measure=>first | exact HM.out | (rw[hwk];exact HM.out)
  ·obtain rfl:i=R.length:=Nat.le_antisymm hi' (Nat.le_of_not_lt hi2)
   have i1:¬(R.length:Int)<(R.length:Int):=Int.lt_irrefl _
   have HF:Hid (aV U w.heap.size (.slice q m c) (cJ R (aH R (aq R F) ⟨s,ro⟩))∧w.grownBy U none):=⟨aP HQ.out.2.1 H1.out.2.1.size,ae H1.out.2.1 HQ.out.2.2⟩
   clear hi' hi2 HQ
   go_wp2_with fail
   go_ret
   exact⟨_,rfl,HF.out.1,HF.out.2⟩
theorem Eg (h:r≠0):lkE r n cd ts F []=r:=mX h
theorem EU:lkE 0 n cd ts F []=if (bw n cd ts F).isSome then 0 else 2:=by
 cases h:bw n cd ts F with
 | none=>rw[kD h];rfl
 | some R=>rw[gd h];rfl
theorem Fm (h:ts.length≤2048):lkE (bg p ts.length) (gs.length:Int) (atC p gs) ts F []=if f8 p gs ts F then 0 else 2:=by
 unfold bg f8
 rw[if_neg (by omega),Qy h,Bool.true_and]
 cases p.shut with
 | true=>rw[if_pos rfl,EU,Bool.true_and]
 | false=>rw[if_neg (by decide),Eg (by decide),Bool.false_and];rfl
theorem jJ (ok:Nat→Prop) (r:Nat) (v:Value) (p:Pl) (gs:List Ent) (vt vf:Value) (ts:List Th) (F:List Fe) (w:World) (B:RD ok w r v p gs) (A:thR.At w vt ts) (AF:feR.At w vf F) (hr:TrI F):Calls Tryz.prog 64 #[.pointer (some ⟨r,0,none⟩),vt,vf] w fun e w'=>e=.returned (.int .i64 (lkE (bg p ts.length) (gs.length:Int) (atC p gs) ts F []))∧w.grownBy w' none:=by
 have C1:=bs r v p w B.rj
 have C2:=pQ ok r v p gs vt vf ts F w B A AF hr
 obtain⟨pt,ct,rfl⟩:=A.form
 obtain⟨pf,cf,rfl⟩:=AF.form
 clear B A AF hr
 go_enter Tryz.func64,Tryz.ntmps64
 go_wp2_with fail
 refine C1.mono ?_
 rintro e1 w1 ⟨rfl,hw1⟩
 rw[hw1]
 clear hw1 w1 C1
 by_cases h2:(2048:Int)<(ts.length:Int)
 ·have HE:Hid (lkE (bg p ts.length) (gs.length:Int) (atC p gs) ts F []=3):=by
   show _=_
   unfold bg
   rw[if_pos (by omega),Eg (by decide)]
  have d2:decide ((2048:Int)<(ts.length:Int))=true:=Qy h2
  clear h2
  go_wp2_with fail
  go_ret
  exact⟨by rw[HE.out] <;> rfl,ay _ _⟩
 ·have d2:decide ((2048:Int)<(ts.length:Int))=false:=Qx h2
  obtain⟨q,hq⟩:=Qe (f8 p gs ts F)
  have HE:Hid (lkE (bg p ts.length) (gs.length:Int) (atC p gs) ts F []=if q then 0 else 2):=by
   show _=_
   rw[Fm (by omega),←hq]
  rw[←hq] at C2
  clear hq h2
  go_wp2_with fail
  refine C2.mono ?_
  rintro e2 w2 ⟨rfl,g2⟩
  have HG:Hid (w.grownBy w2 none):=g2
  clear C2 g2
  cases q with
  | true =>
   go_wp2_with fail
   go_ret
   exact⟨by rw[HE.out] <;> rfl,HG.out⟩
  | false =>
   go_wp2_with fail
   go_ret
   exact⟨by rw[HE.out] <;> rfl,HG.out⟩
theorem xZ (h:∀ r∈R,r.nu≠x):eV R x=none:=by
 unfold eV
 rw[List.findIdx?_eq_none_iff]
 intro r hr
 simpa using h r hr
theorem nG (h:∀ r∈R,r.nu≠s.th):bH R s=none:=by
 unfold bH
 rw[xZ h]
theorem yI (hn:(R.map Rw.nu).Nodup) {i:Nat} (hi:i<R.length) {x:Int} (h:(R.getD i Rw.none).nu=x):eV R x=some i:=by
 unfold eV
 rw[List.findIdx?_eq_some_iff_getElem]
 refine⟨hi,by rw[←aB (d:=Rw.none) hi,h];simp,fun j hj=>?_⟩
 have hjl:j<R.length:=Nat.lt_trans hj hi
 simp only[decide_eq_true_eq]
 intro e
 have:=jM hn hjl hi (by rw[aB hjl,e,h])
 omega
theorem AE (hn:(R.map Rw.nu).Nodup) {s:Sd} {i:Nat} (hi:i<R.length) (h:(R.getD i Rw.none).nu=s.th):bH R s=if cZ (R.getD i Rw.none).ps s then some ⟨s,i⟩ else none:=by
 unfold bH
 rw[yI hn hi h]
theorem ua (h:s.pl<0):cZ ps s=false:=by unfold cZ;rw[Qx (show ¬0≤s.pl by omega)];rfl
theorem tx (h:(ps.length:Int)≤s.pl):cZ ps s=false:=by unfold cZ;rw[Qx (show ¬s.pl<(ps.length:Int) by omega),Bool.and_false];rfl
theorem zC {k:Nat} {q:Pt} (hk:ps[k]?=some q) (h:s.pl=(k:Int)):cZ ps s=(decide (q.wn=5) && bV q s.wh):=by
 have hl:=(Qh hk).1
 unfold cZ
 rw[h,Qy (show (0:Int)≤(k:Int) by omega),Qy (show (k:Int)<(ps.length:Int) by omega),show ((k:Int)).toNat=k by omega,List.getD_eq_getElem?_getD,hk]
 show (decide (s.wh.wn=5) && bV q s.wh)=_
 by_cases e:q=s.wh
 ·rw[e]
 ·rw[nF e,Bool.and_false,Bool.and_false]
theorem tD (ok:Nat→Prop) (r:Nat) (v:Value) (p:Pl) (gs:List Ent) (vt:Value) (ts:List Th) (F:List Fe) (R:List Rw) (s:Sd) (w:World) (B:RD ok w r v p gs) (A:thR.At w vt ts) (hT:Tab (gs.length:Int) (atC p gs) ts F R) (hl:ts.length≤2048):Calls Tryz.prog 138 #[.pointer (some ⟨r,0,none⟩),vt,sdv s] w fun e w'=>e=.returned (.bool (bH R s).isSome)∧w.grownBy w' none:=by
 obtain⟨pt,ct,rfl⟩:=A.form
 obtain⟨V,hV⟩:=Qe (w.alloc (.cells #[.int .i64 s.th,.int .i64 s.pl,.int .u8 s.wh.wn,.int .u8 s.wh.vb,.int .u8 s.wh.wm,.int .i64 s.wh.ct,.int .u8 s.wh.su,.int .u8 s.wh.tr,.int .u8 s.wh.mr,.string s.wh.nm] 64))
 have HV:Hid (SdB V w.heap.size s∧w.grownBy V none∧RD ok V r v p gs∧thR.At V (.slice pt ts.length ct) ts):=by
  have gr:w.grownBy V none:=by rw[hV];exact QG
  exact⟨by rw[hV];exact ak _ _ _,gr,B.keep gr,A.keep gr⟩
 have HT:Hid (Tab (gs.length:Int) (atC p gs) ts F R∧ts.length≤2048):=⟨hT,hl⟩
 unfold sdv
 clear B A hT hl
 go_enter Tryz.func138,Tryz.ntmps138
 go_upto_region 1 with fail
 rw[←hV]
 obtain⟨n0,hn0⟩:=Qe (w.heap.size)
 rw[←hn0] at HV ⊢
 clear hV hn0
 have HGE:Hid (w.grownBy V none):=HV.out.2.1
 obtain⟨s0,s1,s2,s3,s4,s5,s6,s7,s8,s9⟩:=bS HV.out.1
 by_cases a1:s.th<1
 ·have d1:decide (s.th<1)=true:=Qy a1
  have HN:Hid (bH R s=none):=nG fun x hx e=>by have:=(HT.out.1.nu x hx).1;omega
  clear a1
  go_wp2_with fail
  go_ret
  exact⟨by rw[HN.out] <;> rfl,HGE.out⟩
 ·have d1:decide (s.th<1)=false:=Qx a1
  by_cases a2:(ts.length:Int)<s.th
  ·have d2:decide ((ts.length:Int)<s.th)=true:=Qy a2
   have HN:Hid (bH R s=none):=nG fun x hx e=>by have:=(HT.out.1.nu x hx).2;rw[←HT.out.1.len] at this;omega
   clear a1 a2
   go_wp2_with fail
   go_ret
   exact⟨by rw[HN.out] <;> rfl,HGE.out⟩
  ·have d2:decide ((ts.length:Int)<s.th)=false:=Qx a2
   obtain⟨z,hz⟩:∃ z:Nat,s.th=(z:Int)+1:=⟨(s.th - 1).toNat,by omega⟩
   have hzl:z<ts.length:=by omega
   obtain⟨t,ht⟩:∃ t,ts[z]?=some t:=⟨_,Qg hzl⟩
   have Hz:Hid (s.th=(z:Int)+1∧ts[z]?=some t):=⟨hz,ht⟩
   have z1:(z:Int)<(ts.length:Int):=by omega
   have z0:(0:Int)≤(z:Int):=by omega
   have wz:wrap64 (z:Int)=(z:Int):=by have:=HT.out.2;unfold wrap64;omega
   have wz2:IntKind.i64.wrap (z:Int)=(z:Int):=by have:=HT.out.2;rw[IntWalk.i64_in _ (by omega)]
   obtain⟨gT,oT,cT,eT,-⟩:=bO HV.out.2.2.2 hzl
   injection eT with eT eT2 eT3
   clear eT2 eT3
   subst eT
   obtain⟨t0,-,t2,-⟩:=bz (qS HV.out.2.2.2 ht)
   rw[hz] at s0 d1 d2
   clear a1 a2 hz ht hzl
   by_cases h4:t.place=4
   ·have e4:(t.place != 4)=false:=by rw[h4];rfl
    have HP:Hid (t.place=4):=h4
    clear h4
    have C2:=jV ok r v p gs t.card V HV.out.2.2.1
    unfold gh at C2
    obtain⟨h,hh⟩:=Qe ((atC p gs t.card).1)
    obtain⟨ps,hps⟩:=Qe ((atC p gs t.card).2)
    obtain⟨x,hx⟩:=Qe (atX p gs t.card)
    have Hps:Hid (ps=(atC p gs t.card).2):=hps
    rw[←hh,←hx,←hps] at C2
    unfold cv at C2
    clear hh hx hps
    go_wp2_with fail
    refine C2.mono ?_
    rintro e2 w2 ⟨u,rfl,ou,g2⟩
    obtain⟨pu,cu,rfl⟩:∃ p c,u=.slice p ps.length c:=by obtain⟨p,c,e,_⟩:=br ou;exact⟨p,c,e⟩
    obtain⟨Z,hZ⟩:=Qe (w2.alloc (.cells #[.string h.nm,.int .u8 h.su,.int .u8 h.kd,.int .i64 h.co,.int .i64 h.po,.int .i64 h.he,.int .u16 h.tr,.bool h.tk,.slice pu ps.length cu] 111))
    have HZ:Hid (CdK Z w2.heap.size h (.slice pu ps.length cu)∧SdB Z n0 s∧w.grownBy Z none∧cD Z (.slice pu ps.length cu) ps):=by
     have g:w2.grownBy Z none:=by rw[hZ];exact QG
     exact⟨by rw[hZ];exact ak _ _ _,ag g (ag g2 HV.out.1 (by simp)) (by simp),ae (ae HV.out.2.1 g2) g,ou.at.keep g⟩
    clear C2 ou g2 s0 s1 s2 s3 s4 s5 s6 s7 s8 s9 d1 d2 e4
    go_upto_region 4 with fail
    rw[←hZ]
    obtain⟨nc,hnc⟩:=Qe (w2.heap.size)
    rw[←hnc] at HZ ⊢
    clear hZ hnc t0 t2
    obtain⟨s0,s1,s2,s3,s4,s5,s6,s7,s8,s9⟩:=bS HZ.out.2.1
    have k8:Z.cell? ⟨nc,8,none⟩=some (.slice pu ps.length cu):=(aa HZ.out.1 8).trans rfl
    have HGZ:Hid (w.grownBy Z none):=HZ.out.2.2.1
    obtain⟨i,hi,q1,q2⟩:=BO HT.out.1 Hz.out.2 HP.out
    have HF:Hid (bH R s=if cZ ps s then some ⟨s,i⟩ else none):=by
     show _=_
     rw[AE HT.out.1.nod hi (by rw[q2,Hz.out.1])]
     have:(R.getD i Rw.none).ps=ps:=by
      obtain⟨j,u,hu,-,e⟩:=HT.out.1.row (show R.getD i Rw.none∈R by rw[aB hi];exact List.getElem_mem _)
      have hn:(R.getD i Rw.none).nu=(j:Int)+1:=by rw[e]
      obtain rfl:j=z:=by omega
      rw[Hz.out.2] at hu
      cases hu
      rw[Hps.out,e]
     rw[this]
    clear hi q1 q2
    by_cases b1:s.pl<0
    ·have c1:decide (s.pl<0)=true:=Qy b1
     have HN:Hid (bH R s=none):=by show _=_;rw[HF.out,ua b1];rfl
     clear b1
     go_wp2_with fail
     go_ret
     exact⟨by rw[HN.out] <;> rfl,HGZ.out⟩
    ·have c1:decide (s.pl<0)=false:=Qx b1
     by_cases b2:(ps.length:Int)≤s.pl
     ·have c2:decide ((ps.length:Int)≤s.pl)=true:=Qy b2
      have HN:Hid (bH R s=none):=by show _=_;rw[HF.out,tx b2];rfl
      clear b1 b2
      go_wp2_with fail
      go_ret
      exact⟨by rw[HN.out] <;> rfl,HGZ.out⟩
     ·have c2:decide ((ps.length:Int)≤s.pl)=false:=Qx b2
      obtain⟨k,hk⟩:∃ k:Nat,s.pl=(k:Int):=⟨s.pl.toNat,by omega⟩
      have hkl:k<ps.length:=by omega
      obtain⟨q,hq⟩:∃ q,ps[k]?=some q:=⟨_,Qg hkl⟩
      have HS:Hid (cZ ps s=(decide (q.wn=5) && bV q s.wh)):=zC hq hk
      obtain⟨gp,op,cp,ep,hpt⟩:=HZ.out.2.2.2.part (by omega)
      have P:=hpt k q hq
      injection ep with ep ep2 ep3
      clear ep2 ep3
      subst ep
      have k1:(k:Int)<(ps.length:Int):=by omega
      have k0:(0:Int)≤(k:Int):=by omega
      rw[hk] at s1 c1 c2
      obtain⟨p0,p1,p2,p3,p4,p5,p6,p7⟩:=P
      obtain⟨Y,hY⟩:=Qe (Z.alloc (.cells #[.int .u8 q.wn,.int .u8 q.vb,.int .u8 q.wm,.int .i64 q.ct,.int .u8 q.su,.int .u8 q.tr,.int .u8 q.mr,.string q.nm] 62))
      have HY:Hid (PtX Y Z.heap.size q∧SdB Y n0 s∧w.grownBy Y none):=by
       have g:Z.grownBy Y none:=by rw[hY];exact QG
       exact⟨by rw[hY];exact ak _ _ _,ag g HZ.out.2.1 (by simp),ae HZ.out.2.2.1 g⟩
      clear b1 b2 hk hkl hq hpt
      go_upto_region 7 with fail
      rw[←hY]
      obtain⟨n1,hn1⟩:=Qe (Z.heap.size)
      rw[←hn1] at HY ⊢
      clear hY hn1 p0 p1 p2 p3 p4 p5 p6 p7 s0 s1 s2 s3 s4 s5 s6 s7 s8 s9 c1 c2 k8
      obtain⟨x0,x1,x2,x3,x4,x5,x6,x7⟩:=rC HY.out.1
      obtain⟨-,-,s2,s3,s4,s5,s6,s7,s8,s9⟩:=bS HY.out.2.1
      have CS:=vj q s.wh Y
      unfold pv at CS
      by_cases w5:q.wn=5
      ·have e5:(q.wn == 5)=true:=by rw[w5];rfl
       have HR:Hid ((bH R s).isSome=bV q s.wh):=by
        show _=_
        rw[HF.out,HS.out,Qy w5,Bool.true_and]
        cases bV q s.wh <;> rfl
       clear w5
       go_wp2_with fail
       refine CS.mono ?_
       rintro e3 w3 ⟨rfl,g3⟩
       have HG3:Hid (w.grownBy w3 none):=ae HY.out.2.2 g3
       clear CS g3
       go_wp2_with fail
       go_ret
       exact⟨by rw[HR.out] <;> rfl,HG3.out⟩
      ·have e5:(q.wn == 5)=false:=by simpa using w5
       have HR:Hid ((bH R s).isSome=false):=by
        show _=_
        rw[HF.out,HS.out,Qx w5,Bool.false_and]
        rfl
       clear w5
       go_wp2_with fail
       go_ret
       exact⟨by rw[HR.out] <;> rfl,HY.out.2.2⟩
   ·have e4:(t.place != 4)=true:=by simpa using h4
    have HN:Hid (bH R s=none):=nG fun x hx e=>by
     obtain⟨j,u,hu,hu4,hn,-⟩:=HT.out.1.from hx
     obtain rfl:j=z:=by have:=Hz.out.1;omega
     rw[Hz.out.2] at hu
     cases hu
     exact h4 hu4
    clear h4
    go_wp2_with fail
    go_ret
    exact⟨by rw[HN.out] <;> rfl,HGE.out⟩
end Go.Proofs.YtjmepebbcnhalaaGreat
