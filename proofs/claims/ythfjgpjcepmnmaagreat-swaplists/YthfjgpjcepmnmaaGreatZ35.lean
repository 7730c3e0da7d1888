/-
  The document's layers: a unit;whom an effect is about.
  The document's layers: those that an effect is about,by rising stamps.
  The document's layers: what is refused of all;whether an effect may be.
-/
import Derived.Test.YthfjgpjcepmnmaaGreatZ32
import Derived.Test.YthfjgpjcepmnmaaGreatZ34
import Derived.Test.YthfjgpjcepmnmaaGreatZ0
namespace Go.Proofs.YthfjgpjcepmnmaaGreat
set_option maxRecDepth 100000
set_option maxHeartbeats 4000000
open Go.RowKit Go.Shelf
def unitB (kd:Int) (t:Th):Bool:=decide (t.place=4) && decide (kd=1)
theorem runit19_any (ok:Nat→Prop) (r:Nat) (v:Value) (p:Pl) (gs:List Ent) (t:Th) (w:World) (B:RD ok w r v p gs):Calls Tryz.prog 284 #[.pointer (some ⟨r,0,none⟩),thv t] w fun e w'=>e=.returned (.bool (unitB (atC p gs t.card).1.kd t))∧w.grownBy w' none:=by
 obtain⟨V,hV⟩:∃ V,V=w.alloc (.cells #[.int .i64 t.card,.int .i64 t.owner,.int .u8 t.place,.int .i64 t.stamp,.int .i64 t.hurt,.int .i64 t.m0,.int .i64 t.m1,.int .i64 t.m2,.int .i64 t.m3,.int .i64 t.done,.bool t.fresh] 100):=⟨_,rfl⟩
 have HV:Hid (ThB V w.heap.size t∧w.grownBy V none):=⟨by rw[hV];exact alloc_at _ _ _,by rw[hV];exact World.grownBy_alloc _ _ none⟩
 have C2:=rat_own ok r v p gs t.card V (B.keep HV.out.2)
 unfold CaPost at C2
 obtain⟨h,hh⟩:∃ h,h=(atC p gs t.card).1:=⟨_,rfl⟩
 obtain⟨x,hx⟩:∃ x,x=atX p gs t.card:=⟨_,rfl⟩
 rw[←hh,←hx] at C2
 rw[←hh]
 unfold cv at C2
 unfold thv
 clear B hh hx
 go_enter Tryz.func284,Tryz.ntmps284
 go_upto_region 1 with fail
 rw[←hV]
 obtain⟨n0,hn0⟩:∃ n0,n0=w.heap.size:=⟨_,rfl⟩
 rw[←hn0] at HV ⊢
 clear hV hn0
 obtain⟨b0,b1,b2,b3,b4,b5,b6,b7,b8,b9,b10⟩:=th_box HV.out.1
 go_wp2_with fail
 refine C2.mono ?_
 rintro e2 w2 ⟨u,rfl,ou,g2⟩
 obtain⟨pu,cu,mu,rfl⟩:∃ p c m,u=.slice p m c:=by obtain⟨p,c,e,_⟩:=own_slice ou;exact⟨p,c,_,e⟩
 obtain⟨Z,hZ⟩:∃ Z,Z=w2.alloc (.cells #[.string h.nm,.int .u8 h.su,.int .u8 h.kd,.int .i64 h.co,.int .i64 h.po,.int .i64 h.he,.int .u16 h.tr,.bool h.tk,.slice pu mu cu] 54):=⟨_,rfl⟩
 have HZ:Hid (CdK Z w2.heap.size h (.slice pu mu cu)∧ThB Z n0 t∧w.grownBy Z none):=by
  have g:w2.grownBy Z none:=by rw[hZ];exact World.grownBy_alloc _ _ none
  exact⟨by rw[hZ];exact alloc_at _ _ _,grown_keep g (grown_keep g2 HV.out.1 (by simp)) (by simp),grown_trans (grown_trans HV.out.2 g2) g⟩
 clear C2 ou g2 b0 b1 b2 b3 b4 b5 b6 b7 b8 b9 b10
 go_upto_region 2 with fail
 rw[←hZ]
 obtain⟨nc,hnc⟩:∃ nc,nc=w2.heap.size:=⟨_,rfl⟩
 rw[←hnc] at HZ ⊢
 clear hZ hnc
 obtain⟨b0,b1,b2,b3,-⟩:=th_box HZ.out.2.1
 have k2:Z.cell? ⟨nc,2,none⟩=some (.int .u8 h.kd):=(block_cell HZ.out.1 2).trans rfl
 by_cases h4:t.place=4
 ·have e1:(t.place == 4)=true:=by rw[h4];rfl
  by_cases h1:h.kd=1
  ·have e2:(h.kd == 1)=true:=by rw[h1];rfl
   have HU:Hid (unitB h.kd t=true):=by show _=_;unfold unitB;rw[decide_eq_true h4,decide_eq_true h1];rfl
   clear h4 h1
   go_wp2_with fail
   go_ret
   exact⟨by rw[HU.out] <;> rfl,HZ.out.2.2⟩
  ·have e2:(h.kd == 1)=false:=by simpa using h1
   have HU:Hid (unitB h.kd t=false):=by show _=_;unfold unitB;rw[decide_eq_false h1,Bool.and_false]
   clear h4 h1
   go_wp2_with fail
   go_ret
   exact⟨by rw[HU.out] <;> rfl,HZ.out.2.2⟩
 ·have e1:(t.place == 4)=false:=by simpa using h4
  have HU:Hid (unitB h.kd t=false):=by show _=_;unfold unitB;rw[decide_eq_false h4,Bool.false_and]
  clear h4
  go_wp2_with fail
  go_ret
  exact⟨by rw[HU.out] <;> rfl,HZ.out.2.2⟩
theorem meantB_4 {wh:Pt} {own:Bool} {kd:Int} {f:Fe} {ho:Int} (h:wh.wm=4):meantB wh own kd f ho=own:=by unfold meantB;rw[if_pos h]
theorem meantB_kd {wh:Pt} {own:Bool} {kd:Int} {f:Fe} {ho:Int} (h:¬wh.wm=4) (hk:¬kd=1):meantB wh own kd f ho=false:=by unfold meantB;rw[if_neg h,if_pos hk]
def restB (wm:Int) (wh:Pt) (own:Bool) (f:Fe) (ho:Int):Bool:=if wm=5 then decide (f.ho=ho) else if wm=8 then decide (f.ho=ho) && !own else if wm=6 then !decide (f.ho=ho) else if wm=7 then true else if wm=9 then decide (f.su=wh.su) else if wm=10 then tHas f.tr wh.tr else false
theorem meantB_rest {wh:Pt} {own:Bool} {kd:Int} {f:Fe} {ho:Int} (h:¬wh.wm=4) (hk:kd=1):meantB wh own kd f ho=restB wh.wm wh own f ho:=by unfold meantB restB;rw[if_neg h,if_neg (by simpa using hk)]
theorem rec_feV {w:World} {g off n c:Nat} {X:List Fe} (h:feR.At w (.slice (some ⟨g,off,none⟩) n c) X) {i:Nat} {x:Fe} (hx:X[i]?=some x):w.rangeAt g (off+i*5) (fec x):=by
 obtain⟨hi,e⟩:=List.getElem?_eq_some_iff.1 hx
 obtain⟨g',off',cap,e1,r⟩:=fe_there h hi
 injection e1 with e1 _ _
 injection e1 with e1
 injection e1 with ea eb
 rw[ea,eb,←e]
 exact r
theorem rmeant_any (ok:Nat→Prop) (r:Nat) (v:Value) (p:Pl) (gs:List Ent) (vt vf:Value) (ts:List Th) (F:List Fe) (s:Sd) (j z:Nat) (t:Th) (f g:Fe) (own:Bool) (w:World) (B:RD ok w r v p gs) (A:thR.At w vt ts) (AF:feR.At w vf F) (hj:ts[j]?=some t) (h4:t.place=4) (hf:F[j]?=some f) (hg:F[z]?=some g) (hz:s.th=(z:Int)+1) (ho:(((j:Int)+1) == s.th)=own) (hl:ts.length≤2048∧F.length≤2048):Calls Tryz.prog 241 #[.pointer (some ⟨r,0,none⟩),vt,vf,sdv s,.int .i64 ((j:Int)+1)] w fun e w'=>e=.returned (.bool (meantB s.wh own (atC p gs t.card).1.kd f g.ho))∧w.grownBy w' none:=by
 obtain⟨pt,ct,rfl⟩:=A.form
 obtain⟨pf,cf,rfl⟩:=AF.form
 have hjl:j<ts.length:=(List.getElem?_eq_some_iff.1 hj).1
 have hjf:j<F.length:=(List.getElem?_eq_some_iff.1 hf).1
 have hzf:z<F.length:=(List.getElem?_eq_some_iff.1 hg).1
 obtain⟨V,hV⟩:∃ V,V=w.alloc (.cells #[.int .i64 s.th,.int .i64 s.pl,.int .u8 s.wh.wn,.int .u8 s.wh.vb,.int .u8 s.wh.wm,.int .i64 s.wh.ct,.int .u8 s.wh.su,.int .u8 s.wh.tr,.int .u8 s.wh.mr,.string s.wh.nm] 40):=⟨_,rfl⟩
 have HV:Hid (SdB V w.heap.size s∧w.grownBy V none∧RD ok V r v p gs∧thR.At V (.slice pt ts.length ct) ts∧feR.At V (.slice pf F.length cf) F):=by
  have gr:w.grownBy V none:=by rw[hV];exact World.grownBy_alloc _ _ none
  exact⟨by rw[hV];exact alloc_at _ _ _,gr,B.keep gr,A.keep gr,AF.keep gr⟩
 have HJ:Hid (ts[j]?=some t∧F[j]?=some f∧F[z]?=some g∧t.place=4):=⟨hj,hf,hg,h4⟩
 obtain⟨kd,hkd⟩:∃ kd,kd=(atC p gs t.card).1.kd:=⟨_,rfl⟩
 have CU:=runit19_any ok r v p gs t V HV.out.2.2.1
 rw[←hkd] at CU
 rw[show unitB kd t=decide (kd=1) from by unfold unitB;rw[decide_eq_true h4,Bool.true_and]] at CU
 rw[←hkd]
 have j1:((j:Int))<(ts.length:Int):=Int.ofNat_lt.2 hjl
 have j2:((j:Int))<(F.length:Int):=Int.ofNat_lt.2 hjf
 have z1:((z:Int))<(F.length:Int):=Int.ofNat_lt.2 hzf
 have wj:wrap64 (j:Int)=(j:Int):=by unfold wrap64;omega
 have wz:wrap64 (z:Int)=(z:Int):=by unfold wrap64;omega
 have wj2:IntKind.i64.wrap (j:Int)=(j:Int):=by rw[IntWalk.i64_in _ (by omega)]
 have wz2:IntKind.i64.wrap (z:Int)=(z:Int):=by rw[IntWalk.i64_in _ (by omega)]
 obtain⟨gT,oT,cT,eT,-⟩:=th_there A hjl
 injection eT with eT eT2 eT3
 clear eT2 eT3
 subst eT
 obtain⟨gF,oF,cF,eF,-⟩:=fe_there AF hjf
 injection eF with eF eF2 eF3
 clear eF2 eF3
 subst eF
 have Hz:Hid (s.th=(z:Int)+1):=hz
 unfold sdv
 rw[hz] at ho ⊢
 unfold thv at CU
 clear B A AF hj h4 hf hg hl hkd hjl hjf hzf hz
 go_enter Tryz.func241,Tryz.ntmps241
 go_upto_region 1 with fail
 rw[show w.alloc (.cells #[.int .i64 ((z:Int)+1),.int .i64 s.pl,.int .u8 s.wh.wn,.int .u8 s.wh.vb,.int .u8 s.wh.wm,.int .i64 s.wh.ct,.int .u8 s.wh.su,.int .u8 s.wh.tr,.int .u8 s.wh.mr,.string s.wh.nm] 40)=V from by rw[hV,Hz.out]]
 obtain⟨n0,hn0⟩:∃ n0,n0=w.heap.size:=⟨_,rfl⟩
 rw[←hn0] at HV ⊢
 clear hV hn0
 obtain⟨s0,-,-,-,s4,-,s6,s7,-⟩:=sd_box HV.out.1
 rw[Hz.out] at s0
 by_cases w4:s.wh.wm=4
 ·have e4:(s.wh.wm == 4)=true:=by rw[w4];rfl
  have HR:Hid (meantB s.wh own kd f g.ho=own):=meantB_4 w4
  clear w4
  go_wp2_with fail
  go_ret
  exact⟨by rw[HR.out] <;> rfl,HV.out.2.1⟩
 ·have e4:(s.wh.wm == 4)=false:=by simpa using w4
  obtain⟨t0,t1,t2,t3,t4,t5,t6,t7,t8,t9,t10⟩:=th_cells (rec_thV HV.out.2.2.2.1 HJ.out.1)
  by_cases hk:kd=1
  ·rw[decide_eq_true hk] at CU
   have HR:Hid (meantB s.wh own kd f g.ho=restB s.wh.wm s.wh own f g.ho):=meantB_rest w4 hk
   clear w4 hk
   go_wp2_with fail
   refine CU.mono ?_
   rintro e1 w1 ⟨rfl,g1⟩
   obtain⟨Y,hY⟩:∃ Y,Y=w1.alloc (.cells #[.int .i64 f.ho,.int .u8 f.su,.int .u16 f.tr,.int .i64 f.po,.int .i64 f.he] 65):=⟨_,rfl⟩
   have HY:Hid (FeB Y w1.heap.size f∧SdB Y n0 s∧w.grownBy Y none∧feR.At Y (.slice (some ⟨gF,oF,none⟩) F.length cf) F):=by
    have gr:w1.grownBy Y none:=by rw[hY];exact World.grownBy_alloc _ _ none
    exact⟨by rw[hY];exact alloc_at _ _ _,grown_keep gr (grown_keep g1 HV.out.1 (by simp)) (by simp),grown_trans (grown_trans HV.out.2.1 g1) gr,(HV.out.2.2.2.2.keep g1).keep gr⟩
   obtain⟨f0,f1,f2,f3,f4⟩:=fe_cells (rec_feV (HV.out.2.2.2.2.keep g1) HJ.out.2.1)
   clear CU g1 t0 t1 t2 t3 t4 t5 t6 t7 t8 t9 t10 s0 s4 s6 s7 e4
   go_upto_region 6 with fail
   rw[←hY]
   obtain⟨n1,hn1⟩:∃ n1,n1=w1.heap.size:=⟨_,rfl⟩
   rw[←hn1] at HY ⊢
   clear hY hn1 f0 f1 f2 f3 f4
   obtain⟨f0,f1,f2,-⟩:=fe_box HY.out.1
   obtain⟨g0,-⟩:=fe_cells (rec_feV HY.out.2.2.2 HJ.out.2.2.1)
   obtain⟨s0,-,-,-,s4,-,s6,s7,-⟩:=sd_box HY.out.2.1
   rw[Hz.out] at s0
   have HGE:Hid (w.grownBy Y none):=HY.out.2.2.1
   obtain⟨wm,hwm⟩:∃ wm,wm=s.wh.wm:=⟨_,rfl⟩
   rw[←hwm] at HR s4
   clear hwm HY HV
   by_cases w5:wm=5
   ·subst w5
    have HQ:Hid (meantB s.wh own kd f g.ho=(f.ho == g.ho)):=by show _=_;rw[HR.out];rfl
    go_wp2_with fail
    go_ret
    exact⟨by rw[HQ.out] <;> rfl,HGE.out⟩
   ·have e5:(wm == 5)=false:=by simpa using w5
    by_cases w8:wm=8
    ·subst w8
     by_cases q:f.ho=g.ho
     ·have eq:(f.ho == g.ho)=true:=by rw[q];exact beq_self_eq_true _
      have hn:(((j:Int)+1) != ((z:Int)+1))=!own:=by rw[bne,ho]
      have HQ:Hid (meantB s.wh own kd f g.ho=!own):=by show _=_;rw[HR.out];show (decide (f.ho=g.ho) && !own)=_;rw[decide_eq_true q,Bool.true_and]
      clear q w5
      go_wp2_with fail
      go_ret
      exact⟨by rw[HQ.out] <;> rfl,HGE.out⟩
     ·have eq:(f.ho == g.ho)=false:=by simpa using q
      have HQ:Hid (meantB s.wh own kd f g.ho=false):=by show _=_;rw[HR.out];show (decide (f.ho=g.ho) && !own)=_;rw[decide_eq_false q,Bool.false_and]
      clear q w5
      go_wp2_with fail
      go_ret
      exact⟨by rw[HQ.out] <;> rfl,HGE.out⟩
    ·have e8:(wm == 8)=false:=by simpa using w8
     by_cases w6:wm=6
     ·subst w6
      have HQ:Hid (meantB s.wh own kd f g.ho=(f.ho != g.ho)):=by show _=_;rw[HR.out];rfl
      clear w5 w8
      go_wp2_with fail
      go_ret
      exact⟨by rw[HQ.out] <;> rfl,HGE.out⟩
     ·have e6:(wm == 6)=false:=by simpa using w6
      by_cases w7:wm=7
      ·subst w7
       have HQ:Hid (meantB s.wh own kd f g.ho=true):=by show _=_;rw[HR.out];rfl
       clear w5 w8 w6
       go_wp2_with fail
       go_ret
       exact⟨by rw[HQ.out] <;> rfl,HGE.out⟩
      ·have e7:(wm == 7)=false:=by simpa using w7
       by_cases w9:wm=9
       ·subst w9
        have HQ:Hid (meantB s.wh own kd f g.ho=(f.su == s.wh.su)):=by show _=_;rw[HR.out];rfl
        clear w5 w8 w6 w7
        go_wp2_with fail
        go_ret
        exact⟨by rw[HQ.out] <;> rfl,HGE.out⟩
       ·have e9:(wm == 9)=false:=by simpa using w9
        by_cases w10:wm=10
        ·subst w10
         have HQ:Hid (meantB s.wh own kd f g.ho=tHas f.tr s.wh.tr):=by show _=_;rw[HR.out];rfl
         have CH:=r4has_any f.tr s.wh.tr Y
         clear w5 w8 w6 w7 w9
         go_wp2_with fail
         refine CH.mono ?_
         rintro e3 w3 ⟨rfl,hw3⟩
         rw[hw3]
         clear hw3 w3 CH
         go_wp2_with fail
         go_ret
         exact⟨by rw[HQ.out] <;> rfl,HGE.out⟩
        ·have e10:(wm == 10)=false:=by simpa using w10
         have HQ:Hid (meantB s.wh own kd f g.ho=false):=by
          show _=_
          rw[HR.out]
          unfold restB
          rw[if_neg w5,if_neg w8,if_neg w6,if_neg w7,if_neg w9,if_neg w10]
         clear w5 w8 w6 w7 w9 w10
         go_wp2_with fail
         go_ret
         exact⟨by rw[HQ.out] <;> rfl,HGE.out⟩
  ·rw[decide_eq_false hk] at CU
   have HR:Hid (meantB s.wh own kd f g.ho=false):=meantB_kd w4 hk
   clear w4 hk
   go_wp2_with fail
   refine CU.mono ?_
   rintro e1 w1 ⟨rfl,g1⟩
   have HG1:Hid (w.grownBy w1 none):=grown_trans HV.out.2.1 g1
   clear CU g1
   go_wp2_with fail
   go_ret
   exact⟨by rw[HR.out] <;> rfl,HG1.out⟩
theorem Tab.ab {n:Int} {cd:Int→Hd×List Pt} {ts:List Th} {F:List Fe} {R:List Rw} (h:Tab n cd ts F R) {s:Sd} {ro i:Nat} (hr:ro<R.length) (hs:(R.getD ro Rw.none).nu=s.th) (hi:i<R.length):∃ (j z:Nat) (t:Th) (f g:Fe) (own:Bool),ts[j]?=some t∧t.place=4∧F[j]?=some f∧F[z]?=some g∧s.th=(z:Int)+1∧(((j:Int)+1) == s.th)=own∧(R.getD i Rw.none).nu=(j:Int)+1∧meantB s.wh own (cd t.card).1.kd f g.ho=isAbB R (pickF R F) ⟨s,ro⟩ i:=by
 obtain⟨j,t,ht,h4,e⟩:=h.row (show R.getD i Rw.none∈R by rw[getD_in hi];exact List.getElem_mem _)
 obtain⟨z,u,hu,-,e2⟩:=h.row (show R.getD ro Rw.none∈R by rw[getD_in hr];exact List.getElem_mem _)
 have hj:j<F.length:=by rw[←h.len];exact(List.getElem?_eq_some_iff.1 ht).1
 have hz:z<F.length:=by rw[←h.len];exact(List.getElem?_eq_some_iff.1 hu).1
 have nj:(R.getD i Rw.none).nu=(j:Int)+1:=by rw[e]
 have nz:(R.getD ro Rw.none).nu=(z:Int)+1:=by rw[e2]
 have hown:(((j:Int)+1) == s.th)=decide (i=ro):=by
  rw[←hs,←nj]
  by_cases q:i=ro
  ·subst q;rw[decide_eq_true rfl];exact beq_self_eq_true _
  ·rw[decide_eq_false q]
   exact Bool.eq_false_iff.2 fun y=>q (nu_inj h.nod hi hr (by simpa using y))
 refine⟨j,z,t,F[j],F[z],decide (i=ro),ht,h4,List.getElem?_eq_getElem hj,List.getElem?_eq_getElem hz,by rw[←hs,nz],hown,nj,?_⟩
 unfold isAbB
 have p1:(pickF R F).getD i Fe.none=F[j]:=by
  unfold pickF
  rw[getD_map _ _ _ Rw.none _ hi,nj,toN,getD_in hj]
 have p2:(pickF R F).getD ro Fe.none=F[z]:=by
  unfold pickF
  rw[getD_map _ _ _ Rw.none _ hr,nz,toN,getD_in hz]
 rw[p1,p2,show (R.getD i Rw.none).h.kd=(cd t.card).1.kd from by rw[e]]
theorem aboutAtR {R:List Rw} {F:List Fe} {e:Se} {i:Nat} (hi:i<R.length):(aboutL R F e).getD i false=isAbB R F e i:=by
 unfold aboutL aboutU
 rw[List.getD_eq_getElem?_getD,List.getElem?_map,List.getElem?_range hi]
 rfl
def abK (R:List Rw) (F:List Fe) (e:Se) (k:Nat):List Int:=numU R (aboutL R F e) k
theorem abK_yes {R:List Rw} {F:List Fe} {e:Se} {i:Nat} {x:Int} (hi:i<R.length) (h:isAbB R F e i=true) (hx:(R.getD i Rw.none).nu=x):abK R F e (i+1)=abK R F e i++[x]:=by
 unfold abK
 rw[numU_yes (by rw[aboutAtR hi,h]),hx]
theorem abK_no {R:List Rw} {F:List Fe} {e:Se} {i:Nat} (hi:i<R.length) (h:isAbB R F e i=false):abK R F e (i+1)=abK R F e i:=by
 unfold abK
 rw[numU_no (by rw[aboutAtR hi,h])]
theorem abK_len (R:List Rw) (F:List Fe) (e:Se) (k:Nat):(abK R F e k).length≤k:=numU_len _ _ _
theorem li_cell {w:World} {base m c:Nat} {p:Option Addr} {l:List Int} (h:LOwnI w base (.slice p m c) l) {j:Nat} (hj:j<l.length):∃ g,p=some ⟨g,0,none⟩∧w.cell? ⟨g,j,none⟩=some (.int .i64 (l.getD j 0)):=by
 obtain⟨g,c',e,_,_,_,_,hc⟩:=own_cell h (by omega)
 injection e with e _ _
 refine⟨g,e,(hc j (by omega)).1.trans ?_⟩
 unfold ints
 rw[List.getElem?_map,List.getElem?_eq_getElem hj,Option.map_some,getD_in hj]
theorem rabout_any (ok:Nat→Prop) (r:Nat) (v:Value) (p:Pl) (gs:List Ent) (vt vf:Value) (ts:List Th) (F:List Fe) (R:List Rw) (s:Sd) (ro:Nat) (w:World) (B:RD ok w r v p gs) (A:thR.At w vt ts) (AF:feR.At w vf F) (hT:Tab (gs.length:Int) (atC p gs) ts F R) (hr:ro<R.length) (hs:(R.getD ro Rw.none).nu=s.th) (hl:ts.length≤2048):Calls Tryz.prog 172 #[.pointer (some ⟨r,0,none⟩),vt,vf,sdv s] w fun e w'=>∃ v,e=.returned v∧LOwnI w' w.heap.size v (numL R (aboutL R (pickF R F) ⟨s,ro⟩))∧w.grownBy w' none:=by
 obtain⟨i0,hi,hz0,hz1,hz2⟩:=info_parts Tryz.linfo3
 obtain⟨pt,ct,rfl⟩:=A.form
 obtain⟨pf,cf,rfl⟩:=AF.form
 obtain⟨V,hV⟩:∃ V,V=w.alloc (.cells #[.int .i64 s.th,.int .i64 s.pl,.int .u8 s.wh.wn,.int .u8 s.wh.vb,.int .u8 s.wh.wm,.int .i64 s.wh.ct,.int .u8 s.wh.su,.int .u8 s.wh.tr,.int .u8 s.wh.mr,.string s.wh.nm] 40):=⟨_,rfl⟩
 have HV:Hid (SdB V w.heap.size s∧w.grownBy V none∧RD ok V r v p gs∧thR.At V (.slice pt ts.length ct) ts∧feR.At V (.slice pf F.length cf) F):=by
  have gr:w.grownBy V none:=by rw[hV];exact World.grownBy_alloc _ _ none
  exact⟨by rw[hV];exact alloc_at _ _ _,gr,B.keep gr,A.keep gr,AF.keep gr⟩
 have HT:Hid (Tab (gs.length:Int) (atC p gs) ts F R∧ro<R.length∧(R.getD ro Rw.none).nu=s.th∧ts.length≤2048):=⟨hT,hr,hs,hl⟩
 have CO:=rorder_any _ _ _ ts F R V HV.out.2.2.2.1 hT hl
 unfold sdv
 clear B A AF hT hr hs hl
 go_enter Tryz.func172,Tryz.ntmps172
 go_upto_region 1 with fail
 rw[←hV]
 obtain⟨n0,hn0⟩:∃ n0,n0=w.heap.size:=⟨_,rfl⟩
 have Hn0:Hid (n0=w.heap.size):=hn0
 rw[←hn0] at HV ⊢
 clear hV hn0
 go_wp2_with fail
 refine CO.mono ?_
 rintro e1 w1 ⟨v1,rfl,o1,g1⟩
 obtain⟨pl,cl,ev⟩:=LOwnI.form o1
 rw[List.length_map] at ev
 subst ev
 have H1:Hid (LOwnI w1 V.heap.size (.slice pl R.length cl) (R.map Rw.nu)∧w.grownBy w1 none∧SdB w1 n0 s∧RD ok w1 r v p gs∧thR.At w1 (.slice pt ts.length ct) ts∧feR.At w1 (.slice pf F.length cf) F):=⟨o1,grown_trans HV.out.2.1 g1,grown_keep g1 HV.out.1 (by simp),HV.out.2.2.1.keep g1,HV.out.2.2.2.1.keep g1,HV.out.2.2.2.2.keep g1⟩
 clear CO o1 g1 HV
 go_wp2_with fail
 go_loopw [9,11] (fun v y wr=>∃ (i m:Nat) (q:Option Addr) (c:Nat),i≤R.length∧y=.int .i64 (i:Int)∧v=.slice q m c∧Hid (m=(abK R (pickF R F) ⟨s,ro⟩ i).length∧LOwnI wr w1.heap.size (.slice q m c) (abK R (pickF R F) ⟨s,ro⟩ i)∧w1.grownBy wr none)) (fun _ y _=>R.length - (intOf y).toNat)
 case atStart=>exact⟨0,0,none,0,Nat.zero_le _,rfl,rfl,rfl,⟨rfl,Or.inl ⟨rfl,rfl⟩⟩,grown_refl _ _⟩
 case round =>
  obtain⟨i,m,q,c,hi',rfl,rfl,HQ⟩:=hrel
  obtain⟨U,hU⟩:∃ U,U=wr:=⟨_,rfl⟩
  subst hU
  by_cases hi2:i<R.length
  ·have i1:(i:Int)<(R.length:Int):=Int.ofNat_lt.2 hi2
   have hwk:=wrap_next (k:=i) (Nat.le_trans (Nat.le_of_lt hi2) (Nat.le_trans HT.out.1.few (by decide)))
   have HM:Hid (R.length - (intOf (.int .i64 ((i:Int)+1))).toNat<R.length - (intOf (.int .i64 (i:Int))).toNat):=meas_k hi2
   obtain⟨j,z,t,f,g,own,ht,h4,hf,hg,hz,ho,hn,hm⟩:=HT.out.1.ab HT.out.2.1 HT.out.2.2.1 hi2
   have HU:Hid (LOwnI U V.heap.size (.slice pl R.length cl) (R.map Rw.nu)∧w.grownBy U none∧SdB U n0 s∧RD ok U r v p gs∧thR.At U (.slice pt ts.length ct) ts∧feR.At U (.slice pf F.length cf) F):=⟨own_grow H1.out.1 HQ.out.2.2,grown_trans H1.out.2.1 HQ.out.2.2,grown_keep HQ.out.2.2 H1.out.2.2.1 (by simp),H1.out.2.2.2.1.keep HQ.out.2.2,H1.out.2.2.2.2.1.keep HQ.out.2.2,H1.out.2.2.2.2.2.keep HQ.out.2.2⟩
   have hfl:ts.length≤2048∧F.length≤2048:=⟨HT.out.2.2.2,by rw[←HT.out.1.len];exact HT.out.2.2.2⟩
   have CM:=rmeant_any ok r v p gs _ _ ts F s j z t f g own U.drew (HU.out.2.2.2.1.keep (grown_drew _)) (HU.out.2.2.2.2.1.keep (grown_drew _)) (HU.out.2.2.2.2.2.keep (grown_drew _)) ht h4 hf hg hz ho hfl
   rw[hm] at CM
   unfold sdv at CM
   obtain⟨gl,ep,cl0⟩:=li_cell HU.out.1 (j:=i) (by rw[List.length_map];exact hi2)
   subst ep
   rw[getD_map _ _ _ Rw.none _ hi2,hn] at cl0
   obtain⟨s0,s1,s2,s3,s4,s5,s6,s7,s8,s9⟩:=sd_box HU.out.2.2.1
   have Hi:Hid (i<R.length∧(R.getD i Rw.none).nu=(j:Int)+1):=⟨hi2,hn⟩
   obtain⟨bb,hbb⟩:∃ bb,bb=isAbB R (pickF R F) ⟨s,ro⟩ i:=⟨_,rfl⟩
   have Hbb:Hid (bb=isAbB R (pickF R F) ⟨s,ro⟩ i):=hbb
   rw[←hbb] at CM
   clear hi' hi2 ht h4 hf hg hz ho hn hm hfl hbb
   go_upto_region 6 with fail
   refine wp_region_held_drew (S:=fun w'=>U.grownBy w' none) (by kernel_rfl) (grown_drew _) (fun hHeld=>?_)
   refine QZ 0 rfl ?_
   go_frame
   refine QZ 1 rfl ?_
   go_frame
   refine QZ 2 rfl ?_
   go_frame
   refine QT 3 rfl (by intro w0 hSw;have s0:=hSw.cell s0 (by simp);have s1:=hSw.cell s1 (by simp);have s2:=hSw.cell s2 (by simp);have s3:=hSw.cell s3 (by simp);have s4:=hSw.cell s4 (by simp);have s5:=hSw.cell s5 (by simp);have s6:=hSw.cell s6 (by simp);have s7:=hSw.cell s7 (by simp);have s8:=hSw.cell s8 (by simp);have s9:=hSw.cell s9 (by simp);go_simp;try with_reducible rfl) ?_
   go_frame
   refine QZ 4 rfl ?_
   go_frame
   refine QZ 5 rfl ?_
   go_frame
   refine QZ 6 rfl ?_
   go_frame
   refine QT 7 rfl (by intro w0 hSw;have cl0:=hSw.cell cl0 (by simp);go_simp;try with_reducible rfl) ?_
   go_frame
   refine QR 8 rfl (fun K hK=>?_)
   go_simp
   go_at_call 241
   refine(CM).mono ?_
   rintro e2 w2 ⟨rfl,g2⟩
   have HG2:Hid (U.grownBy w2 none):=grown_trans (grown_drew _) g2
   clear CM g2
   refine hK.out _ _ (HG2.out) (fun hHeld2=>?_)
   clear hK K
   (try go_frame)
   refine QD ?_
   have H2:Hid (LOwnI w2 V.heap.size (.slice (some ⟨gl,0,none⟩) R.length cl) (R.map Rw.nu)∧LOwnI w2 w1.heap.size (.slice q m c) (abK R (pickF R F) ⟨s,ro⟩ i)∧w1.grownBy w2 none):=⟨own_grow HU.out.1 HG2.out,own_grow HQ.out.2.1 HG2.out,grown_trans HQ.out.2.2 HG2.out⟩
   have cl1:=HG2.out.cell cl0 (by simp)
   clear s0 s1 s2 s3 s4 s5 s6 s7 s8 s9 hHeld hHeld2 cl0 HU HG2
   cases bb with
   | true =>
    have HA:Hid (abK R (pickF R F) ⟨s,ro⟩ (i+1)=abK R (pickF R F) ⟨s,ro⟩ i++[(j:Int)+1]):=abK_yes Hi.out.1 Hbb.out.symm Hi.out.2
    have HO:Hid (w2.ownsRow w1.heap.size 3 1 (.slice q m c) m (ints (abK R (pickF R F) ⟨s,ro⟩ i))):=by
     have h9:=H2.out.2.1
     unfold LOwnI at h9
     rw[←HQ.out.1] at h9
     exact h9
    have HLn:Hid (m+1≤maxLen∧(m+1)*8≤140737488355328∧w1.heap.size≤(w2.alloc (.cells #[.int .i64 ((j:Int)+1)] 3)).heap.size):=by
     have h8:=abK_len R (pickF R F) ⟨s,ro⟩ i
     have h7:=HQ.out.1
     have h6:=HT.out.1.few
     have h5:=Hi.out.1
     exact⟨by unfold maxLen;omega,by omega,Nat.le_trans H2.out.2.2.size (World.grownBy_alloc w2 (.cells #[.int .i64 ((j:Int)+1)] 3) none).size⟩
    have HSr:Hid (Src (w2.alloc (.cells #[.int .i64 ((j:Int)+1)] 3)) (.slice (some ⟨w2.heap.size,0,none⟩) 1 1) 1 1 (ints [(j:Int)+1])):=⟨_,_,rfl,rfl,fun _=>⟨_,rfl,lone_new w2 _⟩⟩
    go_wp2_with (at_builtin;refine lwpl_app (by rfl) (.tmp 29) (.tmp 34) 139 rfl w1.heap.size 3 i0 _ 1 8 Tryz.underlying139 hi hz0 hz1 hz2 rfl (by decide) _ m (ints (abK R (pickF R F) ⟨s,ro⟩ i)) rfl (World.ownsRow.alloc HO.out _) _ 1 (ints [(j:Int)+1]) rfl HSr.out (lints_one _) HLn.out.1 HLn.out.2.1 HLn.out.2.2 ?_;intro v9 w9 o9 g9 _;obtain⟨pv,kv,rfl,-⟩:=own_slice o9;have HO9:Hid _:=o9;have HG9:Hid _:=g9;clear o9 g9)
    have HZ:Hid (m+1=(abK R (pickF R F) ⟨s,ro⟩ (i+1)).length∧LOwnI w9 w1.heap.size (.slice pv (m+1) kv) (abK R (pickF R F) ⟨s,ro⟩ (i+1))∧w1.grownBy w9 none):=by
     refine⟨by rw[HA.out,List.length_append,←HQ.out.1];rfl,?_,grown_own (grown_trans H2.out.2.2 (World.grownBy_alloc w2 (.cells #[.int .i64 ((j:Int)+1)] 3) none)) HG9.out (fun y e=>(World.ownsRow.lt (World.ownsRow.alloc HO.out (.cells #[.int .i64 ((j:Int)+1)] 3)) y e).1)⟩
     rw[HA.out]
     exact lown_more HO9.out HQ.out.1
    go_roundw
    case rel=>exact⟨i+1,m+1,pv,kv,Hi.out.1,by first | rfl | (rw[hwk];rfl) | go_num,rfl,HZ.out⟩
    case measure=>first | exact HM.out | (rw[hwk];exact HM.out)
   | false =>
    have HA:Hid (abK R (pickF R F) ⟨s,ro⟩ (i+1)=abK R (pickF R F) ⟨s,ro⟩ i):=abK_no Hi.out.1 Hbb.out.symm
    go_wp2_with fail
    go_roundw
    case rel=>exact⟨i+1,m,q,c,Hi.out.1,by first | rfl | (rw[hwk];rfl) | go_num,rfl,by rw[HA.out];exact HQ.out.1,by rw[HA.out];exact H2.out.2.1,H2.out.2.2⟩
    case measure=>first | exact HM.out | (rw[hwk];exact HM.out)
  ·obtain rfl:i=R.length:=Nat.le_antisymm hi' (Nat.le_of_not_lt hi2)
   have i1:¬(R.length:Int)<(R.length:Int):=Int.lt_irrefl _
   have HF:Hid (LOwnI U w.heap.size (.slice q m c) (numL R (aboutL R (pickF R F) ⟨s,ro⟩))∧w.grownBy U none):=⟨own_big HQ.out.2.1 H1.out.2.1.size,grown_trans H1.out.2.1 HQ.out.2.2⟩
   clear hi' hi2 HQ
   go_wp2_with fail
   go_ret
   exact⟨_,rfl,HF.out.1,HF.out.2⟩
theorem wr_no {r n:Int} {cd:Int→Hd×List Pt} {ts:List Th} {F:List Fe} (h:r≠0):lkE r n cd ts F []=r:=lkE_no h
theorem wr_tab {n:Int} {cd:Int→Hd×List Pt} {ts:List Th} {F:List Fe}:lkE 0 n cd ts F []=if (tabR n cd ts F).isSome then 0 else 2:=by
 cases h:tabR n cd ts F with
 | none=>rw[lkE_tab h];rfl
 | some R=>rw[lkE_tabs h];rfl
theorem wr_tog {p:Pl} {gs:List Ent} {ts:List Th} {F:List Fe} (h:ts.length≤2048):lkE (refE p ts.length) (gs.length:Int) (atC p gs) ts F []=if togB p gs ts F then 0 else 2:=by
 unfold refE togB
 rw[if_neg (by omega),decide_eq_true h,Bool.true_and]
 cases p.shut with
 | true=>rw[if_pos rfl,wr_tab,Bool.true_and]
 | false=>rw[if_neg (by decide),wr_no (by decide),Bool.false_and];rfl
theorem rwrong_any (ok:Nat→Prop) (r:Nat) (v:Value) (p:Pl) (gs:List Ent) (vt vf:Value) (ts:List Th) (F:List Fe) (w:World) (B:RD ok w r v p gs) (A:thR.At w vt ts) (AF:feR.At w vf F) (hr:TrI F):Calls Tryz.prog 94 #[.pointer (some ⟨r,0,none⟩),vt,vf] w fun e w'=>e=.returned (.int .i64 (lkE (refE p ts.length) (gs.length:Int) (atC p gs) ts F []))∧w.grownBy w' none:=by
 have C1:=rnone_any r v p w B.rj
 have C2:=rtogether_any ok r v p gs vt vf ts F w B A AF hr
 obtain⟨pt,ct,rfl⟩:=A.form
 obtain⟨pf,cf,rfl⟩:=AF.form
 clear B A AF hr
 go_enter Tryz.func94,Tryz.ntmps94
 go_wp2_with fail
 refine C1.mono ?_
 rintro e1 w1 ⟨rfl,hw1⟩
 rw[hw1]
 clear hw1 w1 C1
 by_cases h2:(2048:Int)<(ts.length:Int)
 ·have HE:Hid (lkE (refE p ts.length) (gs.length:Int) (atC p gs) ts F []=3):=by
   show _=_
   unfold refE
   rw[if_pos (by omega),wr_no (by decide)]
  have d2:decide ((2048:Int)<(ts.length:Int))=true:=decide_eq_true h2
  clear h2
  go_wp2_with fail
  go_ret
  exact⟨by rw[HE.out] <;> rfl,grown_refl _ _⟩
 ·have d2:decide ((2048:Int)<(ts.length:Int))=false:=decide_eq_false h2
  obtain⟨q,hq⟩:∃ q,q=togB p gs ts F:=⟨_,rfl⟩
  have HE:Hid (lkE (refE p ts.length) (gs.length:Int) (atC p gs) ts F []=if q then 0 else 2):=by
   show _=_
   rw[wr_tog (by omega),←hq]
  rw[←hq] at C2
  clear hq h2
  go_wp2_with fail
  refine C2.mono ?_
  rintro e2 w2 ⟨rfl,g2⟩
  have HG:Hid (w.grownBy w2 none):=g2
  clear C2 g2
  cases q with
  | true =>
   go_wp2_with fail
   go_ret
   exact⟨by rw[HE.out] <;> rfl,HG.out⟩
  | false =>
   go_wp2_with fail
   go_ret
   exact⟨by rw[HE.out] <;> rfl,HG.out⟩
end Go.Proofs.YthfjgpjcepmnmaaGreat
