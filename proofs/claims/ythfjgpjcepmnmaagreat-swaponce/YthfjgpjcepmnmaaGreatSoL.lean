/-
  
-/
import Derived.Test.YthfjgpjcepmnmaaGreatO0
import Derived.Test.YthfjgpjcepmnmaaGreatO47
import Derived.Test.YthfjgpjcepmnmaaGreatO51
import Derived.Test.YthfjgpjcepmnmaaGreatO52
import Derived.Test.YthfjgpjcepmnmaaGreatO41
namespace Go.Proofs.YthfjgpjcepmnmaaGreat
set_option maxRecDepth 100000
set_option maxHeartbeats 40000000
open Go.RowKit Go.Shelf

structure PrO (w W:World) (b0 b1:Nat) (vc vm vt vf:Value) (op ow:Bool) (cs:List Ent) (ms:List Mk) (ts:List Th) (fs:List Fe) (h:Hp):Prop where
 fi:FiA W vc vm cs ms
 th:thR.At W vt ts
 fe:feR.At W vf fs
 tb:Tb1 W b0 vc vm op vt vf ow
 hb:HpB W b1 h
 gr:w.grownBy W none
theorem PrO.keep {w W W':World} {b0 b1:Nat} {vc vm vt vf:Value} {op ow:Bool} {cs:List Ent} {ms:List Mk} {ts:List Th} {fs:List Fe} {h:Hp} (H:PrO w W b0 b1 vc vm vt vf op ow cs ms ts fs h) (g:W.grownBy W' none):PrO w W' b0 b1 vc vm vt vf op ow cs ms ts fs h:=⟨H.fi.keep g,H.th.keep g,H.fe.keep g,ae g H.tb (by simp),ae g H.hb (by simp),aa H.gr g⟩
structure OnV (w V:World) (b0 b1 nX:Nat) (vc vm vt vf vL vF vU:Value) (op ow:Bool) (cs:List Ent) (ms:List Mk) (ts:List Th) (fs F:List Fe) (L:List Sd) (h:Hp) (x:Ss):Prop where
 pr:PrO w V b0 b1 vc vm vt vf op ow cs ms ts fs h
 xb:SwB V nX x.af vU x.go x.li
 us:sdR.At V vU x.us
 li:sdR.At V vL L
 fe:feR.At V vF F
theorem OnV.keep {w V W:World} {b0 b1 nX:Nat} {vc vm vt vf vL vF vU:Value} {op ow:Bool} {cs:List Ent} {ms:List Mk} {ts:List Th} {fs F:List Fe} {L:List Sd} {h:Hp} {x:Ss} (H:OnV w V b0 b1 nX vc vm vt vf vL vF vU op ow cs ms ts fs F L h x) (g:V.grownBy W none):OnV w W b0 b1 nX vc vm vt vf vL vF vU op ow cs ms ts fs F L h x:=⟨H.pr.keep g,ae g H.xb (by simp),H.us.keep g,H.li.keep g,H.fe.keep g⟩
def nwT (hu:Int) (j:Nat) (t:Th):Th:=if t.place=4∧t.stamp<1099511627776 then { t with hurt:=hu,done:=(j:Int),stamp:=3*t.stamp+1 } else { t with hurt:=hu,done:=(j:Int) }
structure MxO (hu:Int) (i:Nat) (ts Y:List Th):Prop where
 len:Y.length=ts.length
 new:∀ (j:Nat) t u,j<i→ts[j]?=some t→Y[j]?=some u→u=nwT hu j t
 old:∀ j:Nat,i≤j→Y[j]?=ts[j]?
theorem MxO.start (hu:Int) (ts:List Th):MxO hu 0 ts ts:=⟨rfl,fun _ _ _ h=>absurd h (Nat.not_lt_zero _),fun _ _=>rfl⟩
theorem MxO.step {hu:Int} {i:Nat} {ts Y:List Th} {t u:Th} (h:MxO hu i ts Y) (ht:ts[i]?=some t) (e:u=nwT hu i t):MxO hu (i+1) ts (Y.set i u):=by
 have hi:i<ts.length:=(List.getElem?_eq_some_iff.1 ht).1
 refine⟨by rw[List.length_set];exact h.len,fun j a c hj ha hc=>?_,fun j hj=>?_⟩
 ·by_cases q:j=i
  ·subst q
   rw[List.getElem?_set_self (by rw[h.len];exact hi)] at hc
   cases hc
   rw[ht] at ha
   cases ha
   exact e
  ·rw[List.getElem?_set_ne (by omega)] at hc
   exact h.new j a c (by omega) ha hc
 ·rw[List.getElem?_set_ne (by omega)]
  exact h.old j (by omega)
theorem MxO.ots {hu:Int} {ts Y:List Th} {i:Nat} (h:MxO hu i ts Y) (hi:ts.length≤i) (h1:∀ t∈ts,t.place=4→1≤t.stamp) (h2:∀ t∈ts,t.stamp<1099511627776):Ots ts Y:=⟨h.len,fun j t u ht hu'=>by
 have hm:=List.mem_of_getElem? ht
 have e:=h.new j t u (by have:=(List.getElem?_eq_some_iff.1 ht).1;omega) ht hu'
 subst e
 unfold nwT
 split
 ·exact⟨rfl,rfl,rfl,rfl,fun q=>⟨rfl,h1 t hm q⟩⟩
 ·rename_i z
  exact⟨rfl,rfl,rfl,rfl,fun q=>absurd ⟨q,h2 t hm⟩ z⟩⟩
theorem dcap {w:World} {base n c:Nat} {p:Option Addr} {l:List Sd} (h:bi w base (.slice p n c) l):n≤c:=by
 unfold bi ay.Own at h
 rcases h.2 with ⟨e1,_⟩ | ⟨g,cap,cur,e1,_,_,hc,_⟩
 ·cases e1;exact Nat.le_refl _
 ·cases e1;exact hc
def sV (q j:Nat):Int:=if q<j then 1 else 0
theorem qo (vc vm vt vf:Value) (op ow:Bool) (cs:List Ent) (ms:List Mk) (ts:List Th) (fs:List Fe) (h:Hp) (hu:Int) (w:World) (FI:FiA w vc vm cs ms) (TH:thR.At w vt ts) (FE:feR.At w vf fs):Calls Tryz.prog 6 #[yu vc vm op vt vf ow,hpv h,.int .i64 hu] w fun e w'=>e=.returned (.bool true)∧w.grownBy w' none:=by
 obtain⟨pc,kc,pm,km,rfl,rfl⟩:=FI.forms
 obtain⟨pt,ct,rfl⟩:=TH.form
 obtain⟨pf,cf,rfl⟩:=FE.form
 obtain⟨W,hW⟩:∃ W,W=(w.alloc (.cells #[.slice pc cs.length kc,.slice pm ms.length km,.bool op,.slice pt ts.length ct,.slice pf fs.length cf,.bool ow] 72)).alloc (.cells #[.int .u8 h.vb,.int .i64 h.on,.int .i64 h.ct,.int .i64 h.ho,.bool h.vn,.bool h.dr] 43):=⟨_,rfl⟩
 have HG:Hid (w.grownBy W none):=by rw[hW];exact ak (World.grownBy_alloc _ _ none) _
 have H0:Hid (PrO w W w.heap.size (w.heap.size+1) (.slice pc cs.length kc) (.slice pm ms.length km) (.slice pt ts.length ct) (.slice pf fs.length cf) op ow cs ms ts fs h):=⟨FI.keep HG.out,TH.keep HG.out,FE.keep HG.out,by rw[hW];exact oN _ _ _ _ _,by rw[hW];exact aP _ _ _ _,HG.out⟩
 unfold yu hpv
 clear FI TH FE
 go_enter Tryz.func6,Tryz.ntmps6
 go_upto_region 1 with fail
 rw[←hW]
 obtain⟨b0,hb0⟩:∃ b0,b0=w.heap.size:=⟨_,rfl⟩
 obtain⟨b1,hb1⟩:∃ b1,b1=b0+1:=⟨_,rfl⟩
 rw[←hb0,←hb1] at H0 ⊢
 clear hW hb0 hb1 HG
 have C1:=yv _ _ op cs ms W H0.out.fi
 unfold jW at C1
 obtain⟨f0,f1,f2,f3,f4,f5⟩:=fa H0.out.tb
 obtain⟨nB,hnB⟩:∃ nB,nB=W.heap.size+1:=⟨_,rfl⟩
 rw[←hnB] at C1
 clear hnB
 go_wp2_with fail
 refine C1.mono ?_
 rintro e1 w1 ⟨v1,es,gs,p,rfl,P,hNd,g1⟩
 have HRC:Hid (RgC (atC p gs)):=RgC.of (fun e he=>by obtain⟨d,hd,h1,h2⟩:=vX P.same he;rw[←h1,←h2];exact hNd.2 d hd)
 have HP:Hid (Pr (okB nB) w1 nB (nB+1) v1 es gs p):=P
 have H1:Hid (PrO w w1 b0 b1 (.slice pc cs.length kc) (.slice pm ms.length km) (.slice pt ts.length ct) (.slice pf fs.length cf) op ow cs ms ts fs h):=H0.out.keep g1
 clear C1 P hNd g1 f0 f1 f2 f3 f4 f5 H0
 have C2:=sl (okB nB) (nB+1) v1 p gs (.slice pc cs.length kc) (.slice pm ms.length km) _ _ op ow ts fs w1 HP.out.rd H1.out.th H1.out.fe HRC.out
 unfold yu at C2
 obtain⟨f0,f1,f2,f3,f4,f5⟩:=fa H1.out.tb
 go_wp2_with fail
 refine C2.mono ?_
 rintro e2 w2 ⟨vF,rfl,aF,g2⟩
 obtain⟨F,hF⟩:∃ F,F=ftR ow p gs ts fs:=⟨_,rfl⟩
 rw[←hF] at aF
 obtain⟨pF,cF,rfl⟩:=aF.form
 have HF2:Hid (feR.At w2 (.slice pF F.length cF) F∧w1.grownBy w2 none):=⟨aF,g2⟩
 have HS':Hid (∀ Y vt' ts',w1.grownBy Y none→ts'.length=ts.length→thR.At Y vt' ts'→feR.At Y (.slice pF F.length cF) F→SIn Y (.pointer (some ⟨nB,0,none⟩)) vt' (.slice pF F.length cF) (bT p ts.length) (es.length:Int) (atC p es) ts' F):=fun Y vt' ts' g hl A F'=>by rw[←hl];exact SIn.of' (HP.out.book.keep g) A F'
 obtain⟨r,hr⟩:∃ r,r=bT p ts.length:=⟨_,rfl⟩
 obtain⟨m,hm⟩:∃ m,m=(es.length:Int):=⟨_,rfl⟩
 obtain⟨cd,hcd⟩:∃ cd,cd=atC p es:=⟨_,rfl⟩
 rw[←hr,←hm,←hcd] at HS'
 have HS:Hid (∀ Y vt' ts',w1.grownBy Y none→ts'.length=ts.length→thR.At Y vt' ts'→feR.At Y (.slice pF F.length cF) F→SIn Y (.pointer (some ⟨nB,0,none⟩)) vt' (.slice pF F.length cF) r m cd ts' F):=HS'.out
 have H2:Hid (PrO w w2 b0 b1 (.slice pc cs.length kc) (.slice pm ms.length km) (.slice pt ts.length ct) (.slice pf fs.length cf) op ow cs ms ts fs h):=H1.out.keep g2
 clear C2 aF g2 hF hr hm hcd HS' HP HRC H1 f0 f1 f2 f3 f4 f5
 clear p es gs v1
 have I2:=HS.out w2 _ ts HF2.out.2 rfl H2.out.th HF2.out.1
 have C3:=yQ _ _ _ r m cd ts F w2 I2 ⟨_,rfl⟩
 obtain⟨f0,f1,f2,f3,f4,f5⟩:=fa H2.out.tb
 clear I2
 go_wp2_with fail
 refine C3.mono ?_
 rintro e3 w3 ⟨vL,rfl,oL,g3⟩
 obtain⟨L,hL⟩:∃ L,L=swT r m cd ts F:=⟨_,rfl⟩
 rw[←hL] at oL
 obtain⟨pL,cL,rfl⟩:=ay.Own.form oL
 have HL3:Hid (L=swT r m cd ts F∧sdR.At w3 (.slice pL L.length cL) L∧feR.At w3 (.slice pF F.length cF) F∧w1.grownBy w3 none):=⟨hL,ay.Own.at oL,HF2.out.1.keep g3,aa HF2.out.2 g3⟩
 have H3:Hid (PrO w w3 b0 b1 (.slice pc cs.length kc) (.slice pm ms.length km) (.slice pt ts.length ct) (.slice pf fs.length cf) op ow cs ms ts fs h):=H2.out.keep g3
 obtain⟨bq,hbq⟩:∃ q,q=bgE r m cd ts F 1:=⟨_,rfl⟩
 have Hbq:Hid (bq=bgE r m cd ts F 1):=hbq
 rw[←hbq]
 clear C3 oL g3 hL hbq H2 HF2 f0 f1 f2 f3 f4 f5
 have C4:=mD _ _ _ r m cd ts F h w3 (HS.out w3 _ ts HL3.out.2.2.2 rfl H3.out.th HL3.out.2.2.1) ⟨_,rfl⟩
 unfold hpv dL at C4
 obtain⟨f0,f1,f2,f3,f4,f5⟩:=fa H3.out.tb
 obtain⟨k0,k1,k2,k3,k4,k5⟩:=aL H3.out.hb
 obtain⟨x,hx⟩:∃ x,x=fk r m cd ts F h:=⟨_,rfl⟩
 obtain⟨q,hq⟩:∃ q,q=laE r m cd ts F h:=⟨_,rfl⟩
 have HX:Hid (x=fk r m cd ts F h∧q=laE r m cd ts F h):=⟨hx,hq⟩
 rw[←hx,←hq] at C4
 clear hx hq
 go_wp2_with fail
 refine C4.mono ?_
 rintro e4 w4 ⟨pU,mU,cU,rfl,oU,g4⟩
 obtain⟨pU',cU',eU⟩:=ay.Own.form oU
 cases eU
 obtain⟨V,hV⟩:∃ V,V=w4.alloc (.cells #[.int .u8 x.af.vb,.int .i64 x.af.on,.int .i64 x.af.ct,.int .i64 x.af.ho,.bool x.af.vn,.bool x.af.dr,.slice pU x.us.length cU,.int .i64 x.go,.int .i64 x.li] 45):=⟨_,rfl⟩
 have HGV:Hid (w3.grownBy V none):=by rw[hV];exact ak g4 _
 have HV:Hid (OnV w V b0 b1 w4.heap.size (.slice pc cs.length kc) (.slice pm ms.length km) (.slice pt ts.length ct) (.slice pf fs.length cf) (.slice pL L.length cL) (.slice pF F.length cF) (.slice pU x.us.length cU) op ow cs ms ts fs F L h x∧w1.grownBy V none):=⟨⟨H3.out.keep HGV.out,by rw[hV];exact ai _ _ _,(ay.Own.at oU).keep (by rw[hV];exact World.grownBy_alloc _ _ none),HL3.out.2.1.keep HGV.out,HL3.out.2.2.1.keep HGV.out⟩,aa HL3.out.2.2.2 HGV.out⟩
 have HL:Hid (L=swT r m cd ts F):=HL3.out.1
 have HcU:Hid (x.us.length≤cU):=dcap oU
 clear C4 oU g4 H3 HL3 HGV f0 f1 f2 f3 f4 f5 k0 k1 k2 k3 k4 k5
 go_upto_region 5 with fail
 rw[←hV]
 obtain⟨nX,hnX⟩:∃ n,n=w4.heap.size:=⟨_,rfl⟩
 rw[←hnX] at HV ⊢
 clear hV hnX
 by_cases hq0:q=0
 case neg =>
  have HN:Hid (x=Ss.none):=HX.out.1.trans (if_pos (fun z=>hq0 (HX.out.2.trans z)))
  have HXB:Hid (V.heap[nX]?=some (.cells #[.int .u8 0,.int .i64 0,.int .i64 0,.int .i64 0,.bool false,.bool false,.slice pU 0 cU,.int .i64 0,.int .i64 0] 45 (0,0))):=by
   have z:=HV.out.1.xb
   rw[HN.out] at z
   exact z
  have HE:Hid (x.us.length=0):=by show _=_;rw[HN.out];rfl
  have e2:(q != 0)=true:=by simpa using hq0
  have C5:=iG V
  have hq1:=BU
  have hgq:=nl
  have x0:=(ac HXB.out 0).trans rfl
  have x1:=(ac HXB.out 1).trans rfl
  have x2:=(ac HXB.out 2).trans rfl
  have x3:=(ac HXB.out 3).trans rfl
  have x4:=(ac HXB.out 4).trans rfl
  have x5:=(ac HXB.out 5).trans rfl
  have x6:=(ac HXB.out 6).trans rfl
  have x7:=(ac HXB.out 7).trans rfl
  have x8:=(ac HXB.out 8).trans rfl
  clear hq0
  by_cases hb:bq=0
  ·have e1:(bq != 0)=false:=by rw[hb];rfl
   clear hb
   go_wp2_with fail
   refine C5.mono ?_
   rintro e5 w5 ⟨rfl,g5⟩
   go_wp2_with fail
   go_ret
   exact⟨rfl,aa HV.out.1.pr.gr g5⟩
  ·have e1:(bq != 0)=true:=by simpa using hb
   clear hb
   go_wp2_with fail
   refine C5.mono ?_
   rintro e5 w5 ⟨rfl,g5⟩
   go_wp2_with fail
   go_ret
   exact⟨rfl,aa HV.out.1.pr.gr g5⟩
 case pos =>
  have hla:laE r m cd ts F h=0:=HX.out.2.symm.trans hq0
  obtain⟨hbg,hmy⟩:=ry hla
  have hb:bq=0:=Hbq.out.trans hbg
  have hI:=HS.out V _ ts HV.out.2 rfl HV.out.1.pr.th HV.out.1.fe
  obtain⟨hr0,R,hR,hT⟩:=jl hbg
  have HO:Hid (qD r m cd ts F h L x):=by
   show qD r m cd ts F h L x
   rw[HL.out,HX.out.1]
   exact qD.of hI.good (hI.li.book hr0).1.few hla
  have HTs:Hid (ts.length≤2048∧(∀ t∈ts,t.place=4→1≤t.stamp)∧laE r m cd ts F h=0):=⟨(hI.li.book hr0).2,fun t ht h4=>by
   obtain⟨j,hj⟩:=List.getElem?_of_mem ht
   have hl:j<F.length:=by rw[←hT.len];exact(List.getElem?_eq_some_iff.1 hj).1
   have z:=hT.may j t _ hj (List.getElem?_eq_getElem hl) h4
   unfold aQ at z
   simp only[Bool.and_eq_true,decide_eq_true_eq] at z
   omega,hla⟩
  have e1:(bq != 0)=false:=by rw[hb];rfl
  have e2:(q != 0)=false:=by rw[hq0];rfl
  clear hla hbg hmy hb hI hr0 hR hT hq0
  obtain⟨k0,k1,k2,k3,k4,k5⟩:=aL HV.out.1.pr.hb
  obtain⟨V7,hV7⟩:∃ V7,V7=V.alloc (.cells #[.int .u8 h.vb,.int .i64 h.on,.int .i64 h.ct,.int .i64 h.ho,.bool h.vn,.bool h.dr] 43):=⟨_,rfl⟩
  have HA7:Hid (V.grownBy V7 none∧HpB V7 V.heap.size (atN F h x.us 0)):=⟨by rw[hV7];exact World.grownBy_alloc _ _ none,by rw[hV7];exact ai _ _ _⟩
  go_upto_region 8 with fail
  rw[←hV7]
  obtain⟨nA,hnA⟩:∃ n,n=V.heap.size:=⟨_,rfl⟩
  have HnA:Hid (V.heap.size≤nA):=by show _≤_;omega
  rw[←hnA] at HA7 ⊢
  clear hV7 hnA k0 k1 k2 k3 k4 k5 e1 e2
  go_wp2_with fail
  go_loopw [16,17,18,19,20,21,22] (fun i _ _ _ _ _ _ wr=>∃ (k:Nat),k≤x.us.length∧i=.int .i64 (k:Int)∧Hid (V.grownBy wr none∧HpB wr nA (atN F h x.us k))) (fun i _ _ _ _ _ _ _=>x.us.length - (intOf i).toNat)
  case atStart=>exact⟨0,Nat.zero_le _,rfl,HA7.out⟩
  case round =>
   obtain⟨k,hk,rfl,HK⟩:=hrel
   obtain⟨U,hU⟩:∃ U,U=wr:=⟨_,rfl⟩
   subst hU
   clear HA7
   have HVU:Hid (OnV w U b0 b1 nX (.slice pc cs.length kc) (.slice pm ms.length km) (.slice pt ts.length ct) (.slice pf fs.length cf) (.slice pL L.length cL) (.slice pF F.length cF) (.slice pU x.us.length cU) op ow cs ms ts fs F L h x):=HV.out.1.keep HK.out.1
   by_cases hlt:k<x.us.length
   ·have k1:(k:Int)<(x.us.length:Int):=Int.ofNat_lt.2 hlt
    have k0:(0:Int)≤(k:Int):=by omega
    have hwk:=aK (k:=k) (by have:=HO.out.few.2;omega)
    have HM:Hid (x.us.length - (intOf (.int .i64 ((k:Int)+1))).toNat<x.us.length - (intOf (.int .i64 (k:Int))).toNat):=bF hlt
    obtain⟨s,hs⟩:∃ s,x.us[k]?=some s:=⟨_,List.getElem?_eq_getElem hlt⟩
    obtain⟨hsL,hnx,hsw⟩:=HO.out.one k s hs
    obtain⟨qi,hqi⟩:=List.getElem?_of_mem hsL
    have hql:qi<L.length:=(List.getElem?_eq_some_iff.1 hqi).1
    have HQ:Hid (L[qi]?=some s∧qi<L.length∧x.us[k]?=some s∧k<x.us.length):=⟨hqi,hql,hs,hlt⟩
    have HNx:Hid (ph r m cd ts F (atN F h x.us k) (x.us.take k)=some s∧nR r m cd ts F s (atN F h x.us k)=true∧atN F h x.us (k+1)=ia F s (atN F h x.us k)):=⟨hnx,hsw,BK hs⟩
    obtain⟨gU,oU,cU2,eU,rU⟩:=dU HVU.out.us hlt
    injection eU with eU eU2 eU3
    clear eU2 eU3
    subst eU
    rw[show x.us[k]=s from (List.getElem?_eq_some_iff.1 hs).2] at rU
    have HRs:Hid (U.rangeAt gU (oU+k*10) (sdc s)):=rU
    obtain⟨gL,oL,cL2,eL,-⟩:=dU HVU.out.li hql
    injection eL with eL eL2 eL3
    clear eL2 eL3
    subst eL
    clear hsL hnx hsw hqi hql hs hlt hk rU
    obtain⟨x0,x1,x2,x3,x4,x5,x6,x7,x8⟩:=bz HVU.out.xb
    go_upto_block 2 with fail
    go_cut [17] from 92 to 109 (fun c wc=>c=.int .i64 1∧U.grownBy wc none)
    case first =>
     go_wp2_with fail
     clear x0 x1 x2 x3 x4 x5 x6 x7 x8
     go_loopw [17,18] (fun c i wr=>∃ (j:Nat),j≤L.length∧i=.int .i64 (j:Int)∧c=.int .i64 (sV qi j)∧Hid (U.grownBy wr none)) (fun _ i _=>L.length - (intOf i).toNat)
     case atStart=>exact⟨0,Nat.zero_le _,rfl,rfl,aq _ _⟩
     case round =>
      obtain⟨j,hj,rfl,rfl,HJ⟩:=hrel
      obtain⟨Y,hY⟩:∃ Y,Y=wr:=⟨_,rfl⟩
      subst hY
      by_cases hjl:j<L.length
      ·have j1:(j:Int)<(L.length:Int):=Int.ofNat_lt.2 hjl
       have j0:(0:Int)≤(j:Int):=by omega
       have hwj:=aK (k:=j) (by have:=HO.out.few.1;omega)
       have HMj:Hid (L.length - (intOf (.int .i64 ((j:Int)+1))).toNat<L.length - (intOf (.int .i64 (j:Int))).toNat):=bF hjl
       obtain⟨y,hy⟩:∃ y,L[j]?=some y:=⟨_,List.getElem?_eq_getElem hjl⟩
       obtain⟨gL2,oL2,cL2,eL,rL⟩:=dU (HVU.out.li.keep HJ.out) hjl
       injection eL with eL eL2 eL3
       injection eL with eL
       injection eL with eL4 eL5
       clear eL2 eL3
       subst eL4 eL5
       rw[show L[j]=y from (List.getElem?_eq_some_iff.1 hy).2] at rL
       obtain⟨d0,d1,d2,d3,d4,d5,d6,d7,d8,d9⟩:=bu rL
       obtain⟨r0,r1,r2,r3,r4,r5,r6,r7,r8,r9⟩:=bu (bn HRs.out HJ.out)
       obtain⟨x0,x1,x2,x3,x4,x5,x6,x7,x8⟩:=bz (ae HJ.out HVU.out.xb (by simp))
       have hgq:=pz
       have Hjl:Hid (j<L.length):=hjl
       have hq1:=vV y s
       by_cases hjq:j=qi
       ·have hys:y=s:=by rw[hjq,HQ.out.1] at hy;exact(Option.some.inj hy).symm
        rw[show dQ y s=true from eO.2 hys] at hq1
        have hc:sV qi j=0:=if_neg (by omega)
        have hc1:sV qi (j+1)=1:=if_pos (by omega)
        rw[hc]
        clear hys hy rL hjl hj hjq
        go_upto_region 15 with fail
        go_quiet (fail)
        clear d0 d1 d2 d3 d4 d5 d6 d7 d8 d9 r0 r1 r2 r3 r4 r5 r6 r7 r8 r9 x0 x1 x2 x3 x4 x5 x6 x7 x8 hq1 hgq
        go_wp2_with fail
        go_roundw
        case rel=>exact⟨j+1,Hjl.out,by first | rfl | (rw[hwj];rfl) | go_num,by rw[hc1] <;> rfl,aa HJ.out (ax _ _ _)⟩
        case measure=>first | exact HMj.out | (rw[hwj];exact HMj.out)
       ·have hys:¬y=s:=fun z=>hjq (tX HO.out.nod j qi s (by rw[hy,z]) HQ.out.1)
        rw[si hys] at hq1
        have hc1:sV qi (j+1)=sV qi j:=by unfold sV;split <;> split <;> first | rfl | omega
        obtain⟨c,hc⟩:∃ c,c=sV qi j:=⟨_,rfl⟩
        rw[←hc] at hc1 ⊢
        clear hys hy rL hjl hj hjq hc
        go_upto_region 15 with fail
        go_quiet (fail)
        clear d0 d1 d2 d3 d4 d5 d6 d7 d8 d9 r0 r1 r2 r3 r4 r5 r6 r7 r8 r9 x0 x1 x2 x3 x4 x5 x6 x7 x8 hq1 hgq
        go_wp2_with fail
        go_roundw
        case rel=>exact⟨j+1,Hjl.out,by first | rfl | (rw[hwj];rfl) | go_num,by rw[hc1],aa HJ.out (ax _ _ _)⟩
        case measure=>first | exact HMj.out | (rw[hwj];exact HMj.out)
      ·have j1:¬(j:Int)<(L.length:Int):=by omega
       have hc:sV qi j=1:=if_pos (by have:=HQ.out.2.1;omega)
       rw[hc]
       clear hjl hj hc
       go_wp2_with fail
       go_meet
       case rel=>exact⟨rfl,HJ.out⟩
    case rest =>
    obtain⟨rfl,HG0⟩:=hcut
    obtain⟨U1,hU1⟩:∃ U1,U1=wc:=⟨_,rfl⟩
    subst hU1
    have HG1:Hid (U.grownBy U1 none):=HG0
    clear HG0 x0 x1 x2 x3 x4 x5 x6 x7 x8
    go_upto_block 4 with fail
    go_cut [19] from 110 to 125 (fun _ wc=>U.grownBy wc none)
    case first =>
     go_wp2_with fail
     go_loopw [19] (fun i wr=>∃ (j:Nat),j≤k∧i=.int .i64 (j:Int)∧Hid (U.grownBy wr none)) (fun i _=>k - (intOf i).toNat)
     case atStart=>exact⟨0,Nat.zero_le _,rfl,HG1.out⟩
     case round =>
      obtain⟨j,hj,rfl,HJ⟩:=hrel
      obtain⟨Y,hY⟩:∃ Y,Y=wr:=⟨_,rfl⟩
      subst hY
      by_cases hjl:j<k
      ·have j1:(j:Int)<(k:Int):=Int.ofNat_lt.2 hjl
       have j0:(0:Int)≤(j:Int):=by omega
       have hjx:j<x.us.length:=Nat.lt_trans hjl HQ.out.2.2.2
       have j2:(j:Int)<(x.us.length:Int):=Int.ofNat_lt.2 hjx
       have hwj:=aK (k:=j) (by have:=HO.out.few.2;omega)
       have HMj:Hid (k - (intOf (.int .i64 ((j:Int)+1))).toNat<k - (intOf (.int .i64 (j:Int))).toNat):=bF hjl
       obtain⟨y,hy⟩:∃ y,x.us[j]?=some y:=⟨_,List.getElem?_eq_getElem hjx⟩
       obtain⟨gL2,oL2,cL2,eL,rL⟩:=dU (HVU.out.us.keep HJ.out) hjx
       injection eL with eL eL2 eL3
       injection eL with eL
       injection eL with eL4 eL5
       clear eL2 eL3
       subst eL4 eL5
       rw[show x.us[j]=y from (List.getElem?_eq_some_iff.1 hy).2] at rL
       obtain⟨d0,d1,d2,d3,d4,d5,d6,d7,d8,d9⟩:=bu rL
       obtain⟨r0,r1,r2,r3,r4,r5,r6,r7,r8,r9⟩:=bu (bn HRs.out HJ.out)
       obtain⟨x0,x1,x2,x3,x4,x5,x6,x7,x8⟩:=bz (ae HJ.out HVU.out.xb (by simp))
       have hgq:=pz
       have Hjl:Hid (j<k):=hjl
       have hq1:=vV y s
       have hys:¬y=s:=fun z=>absurd (tX HO.out.dif j k s (by rw[hy,z]) HQ.out.2.2.1) (by omega)
       rw[si hys] at hq1
       clear hys hy rL hjl hj hjx
       go_upto_region 20 with fail
       go_quiet (fail)
       clear d0 d1 d2 d3 d4 d5 d6 d7 d8 d9 r0 r1 r2 r3 r4 r5 r6 r7 r8 r9 x0 x1 x2 x3 x4 x5 x6 x7 x8 hq1 hgq
       go_wp2_with fail
       go_roundw
       case rel=>exact⟨j+1,Hjl.out,by first | rfl | (rw[hwj];rfl) | go_num,aa HJ.out (ax _ _ _)⟩
       case measure=>first | exact HMj.out | (rw[hwj];exact HMj.out)
      ·have j1:¬(j:Int)<(k:Int):=by omega
       clear hjl hj
       go_wp2_with fail
       go_meet
       case rel=>exact HJ.out
    case rest =>
    obtain⟨U2,hU2⟩:∃ U2,U2=wc:=⟨_,rfl⟩
    subst hU2
    have HG2:Hid (U.grownBy U2 none):=hcut
    clear hcut HG1
    have HV2:Hid (OnV w U2 b0 b1 nX (.slice pc cs.length kc) (.slice pm ms.length km) (.slice pt ts.length ct) (.slice pf fs.length cf) (.slice (some ⟨gL,oL,none⟩) L.length cL) (.slice pF F.length cF) (.slice (some ⟨gU,oU,none⟩) x.us.length cU) op ow cs ms ts fs F L h x):=HVU.out.keep HG2.out
    have HA2:Hid (HpB U2 nA (atN F h x.us k)∧U2.rangeAt gU (oU+k*10) (sdc s)∧V.grownBy U2 none):=⟨ae HG2.out HK.out.2 (by simp),bn HRs.out HG2.out,aa HK.out.1 HG2.out⟩
    obtain⟨a,ha⟩:∃ a,a=atN F h x.us k:=⟨_,rfl⟩
    obtain⟨a',ha'⟩:∃ a',a'=atN F h x.us (k+1):=⟨_,rfl⟩
    have HAA:Hid (a=atN F h x.us k∧a'=atN F h x.us (k+1)):=⟨ha,ha'⟩
    rw[←ha,←ha'] at HNx
    rw[←ha] at HA2
    have HCN:Hid (∀ Y,U2.grownBy Y none→Calls Tryz.prog 28 #[.pointer (some ⟨nB,0,none⟩),.slice pt ts.length ct,.slice pF F.length cF,.agg #[.int .u8 a.vb,.int .i64 a.on,.int .i64 a.ct,.int .i64 a.ho,.bool a.vn,.bool a.dr],.slice (some ⟨gU,oU,none⟩) k cU] Y fun e w'=>e=.returned (.tuple #[.agg #[.int .u8 a'.vb,.int .i64 a'.on,.int .i64 a'.ct,.int .i64 a'.ho,.bool a'.vn,.bool a'.dr],.agg #[.int .i64 s.th,.int .i64 s.pl,.int .u8 s.wh.wn,.int .u8 s.wh.vb,.int .u8 s.wh.wm,.int .i64 s.wh.ct,.int .u8 s.wh.su,.int .u8 s.wh.tr,.int .u8 s.wh.mr,.string s.wh.nm],.bool true])∧Y.grownBy w' none):=fun Y g=>by
     have z:=yC (.pointer (some ⟨nB,0,none⟩)) (.slice pt ts.length ct) (.slice pF F.length cF) (.slice (some ⟨gU,oU,none⟩) k cU) r m cd ts F a (x.us.take k) Y (HS.out Y _ ts (aa HV.out.2 (aa HA2.out.2.2 g)) rfl (HV2.out.pr.th.keep g) (HV2.out.fe.keep g)) (ay.At.take (HV2.out.us.keep g) k (Nat.le_of_lt HQ.out.2.2.2)) ⟨_,rfl⟩
     rw[HNx.out.1,show tz F a (some s)=a' from HNx.out.2.2.symm] at z
     exact z
    have HCS:Hid (∀ Y,U2.grownBy Y none→Calls Tryz.prog 31 #[.pointer (some ⟨nB,0,none⟩),.slice pt ts.length ct,.slice pF F.length cF,.agg #[.int .i64 s.th,.int .i64 s.pl,.int .u8 s.wh.wn,.int .u8 s.wh.vb,.int .u8 s.wh.wm,.int .i64 s.wh.ct,.int .u8 s.wh.su,.int .u8 s.wh.tr,.int .u8 s.wh.mr,.string s.wh.nm],.agg #[.int .u8 a.vb,.int .i64 a.on,.int .i64 a.ct,.int .i64 a.ho,.bool a.vn,.bool a.dr]] Y fun e w'=>e=.returned (.bool true)∧Y.grownBy w' none):=fun Y g=>by
     have z:=tF (.pointer (some ⟨nB,0,none⟩)) (.slice pt ts.length ct) (.slice pF F.length cF) r m cd ts F s a Y (HS.out Y _ ts (aa HV.out.2 (aa HA2.out.2.2 g)) rfl (HV2.out.pr.th.keep g) (HV2.out.fe.keep g)) ⟨_,rfl⟩
     rw[HNx.out.2.1] at z
     exact z
    have kc1:(k:Int)≤(cU:Int):=by have:=HcU.out;have:=HQ.out.2.2.2;omega
    have kc2:k≤cU:=by have:=HcU.out;have:=HQ.out.2.2.2;omega
    clear ha ha' HVU HK HRs HNx
    obtain⟨f0,f1,f2,f3,f4,f5⟩:=fa HV2.out.pr.tb
    obtain⟨x0,x1,x2,x3,x4,x5,x6,x7,x8⟩:=bz HV2.out.xb
    obtain⟨k20,k21,k22,k23,k24,k25⟩:=aL HA2.out.1
    go_upto_region 22 with fail
    go_cut [20,21,22] from 126 to 139 (fun p20 p21 b22 wc=>∃ n20 n21,p20=.pointer (some ⟨n20,0,none⟩)∧p21=.pointer (some ⟨n21,0,none⟩)∧b22=.bool true∧Hid (U2.grownBy wc none∧HpB wc n20 a'∧SdB wc n21 s))
    case first =>
     refine wp_region_held_drew (S:=fun w'=>U2.grownBy w' none) (by kernel_rfl) (ag _) (fun hHeld=>?_)
     refine QZ 0 rfl ?_
     go_frame
     refine QZ 1 rfl ?_
     go_frame
     refine QT 2 rfl (by intro w0 hSw;have f3:=hSw.cell f3 (by simp);go_simp;try with_reducible rfl) ?_
     go_frame
     refine QZ 3 rfl ?_
     go_frame
     refine QT 4 rfl (by intro w0 hSw;have k20:=hSw.cell k20 (by simp);have k21:=hSw.cell k21 (by simp);have k22:=hSw.cell k22 (by simp);have k23:=hSw.cell k23 (by simp);have k24:=hSw.cell k24 (by simp);have k25:=hSw.cell k25 (by simp);go_simp;try with_reducible rfl) ?_
     go_frame
     refine QZ 5 rfl ?_
     go_frame
     refine QT 6 rfl (by intro w0 hSw;have x6:=hSw.cell x6 (by simp);go_simp;try with_reducible rfl) ?_
     go_frame
     refine QZ 7 rfl ?_
     go_frame
     refine QZ 8 rfl ?_
     go_frame
     clear f0 f1 f2 f3 f4 f5 k20 k21 k22 k23 k24 k25 x0 x1 x2 x3 x4 x5 x6 x7 x8
     refine wpAnyH_ready (rs:=[9,14,15]) (by kernel_rfl) (by simp) ?_
     refine AllReadyH.cons rfl (fun K9 hK=>?_) (AllReadyH.cons rfl (fun K9 hK=>?_) (AllReadyH.cons rfl (fun K9 hK=>?_) AllReadyH.nil))
     ·simp only[QA,QB,QC]
      go_simp
      go_at_call 28
      refine(HCN.out _ (ag _)).mono ?_
      rintro e9 Z1 ⟨rfl,g9⟩
      have H1:Hid (U2.drew.grownBy Z1 none):=g9
      clear g9
      refine hK.out _ _ (aa (ag _) H1.out) (fun hHeld3=>?_)
      clear hK K9
      (try go_frame)
      refine QZ 10 rfl ?_
      go_frame
      refine QZ 11 rfl ?_
      go_frame
      refine QZ 12 rfl ?_
      go_frame
      refine QZ 13 rfl ?_
      go_frame
      refine wpAnyH_ready (rs:=[14,15]) (by kernel_rfl) (by simp) ?_
      refine AllReadyH.cons rfl (fun K9 hK=>?_) (AllReadyH.cons rfl (fun K9 hK=>?_) AllReadyH.nil)
      ·simp only[QA,QB,QC]
       go_simp
       refine hK.out _ _ (aa ((aa (ag _) H1.out)) (World.grownBy_alloc _ _ none)) (fun hHeld3=>?_)
       clear hK K9
       (try go_frame)
       obtain⟨Z2,hZ⟩:∃ Z,Z=Z1.alloc (.cells #[.int .u8 0,.int .i64 0,.int .i64 0,.int .i64 0,.bool false,.bool false] 43):=⟨_,rfl⟩
       have H2:Hid (Z1.grownBy Z2 none∧HpB Z2 Z1.heap.size Hp.none):=⟨by rw[hZ];exact World.grownBy_alloc _ _ none,by rw[hZ];exact ai _ _ _⟩
       rw[←hZ] at hHeld3 ⊢
       clear hZ
       obtain⟨n20,hn⟩:∃ n,n=Z1.heap.size:=⟨_,rfl⟩
       have Hn2:Hid (U2.heap.size≤n20):=by show _≤_;rw[hn];exact((aa (ag _) H1.out)).size
       rw[←hn] at H2 ⊢
       clear hn
       refine QR 15 rfl (fun K9 hK=>?_)
       ·go_simp
        refine hK.out _ _ (aa ((aa ((aa (ag _) H1.out)) H2.out.1)) (World.grownBy_alloc _ _ none)) (fun hHeld3=>?_)
        clear hK K9
        (try go_frame)
        obtain⟨Z3,hZ⟩:∃ Z,Z=Z2.alloc (.cells #[.int .i64 0,.int .i64 0,.int .u8 0,.int .u8 0,.int .u8 0,.int .i64 0,.int .u8 0,.int .u8 0,.int .u8 0,.string ⟨#[]⟩] 40):=⟨_,rfl⟩
        have H3:Hid (Z2.grownBy Z3 none∧SdB Z3 Z2.heap.size Sd.none):=⟨by rw[hZ];exact World.grownBy_alloc _ _ none,by rw[hZ];exact ai _ _ _⟩
        rw[←hZ] at hHeld3 ⊢
        clear hZ
        obtain⟨n21,hn⟩:∃ n,n=Z2.heap.size:=⟨_,rfl⟩
        have Hn3:Hid (U2.heap.size≤n21):=by show _≤_;rw[hn];exact((aa ((aa (ag _) H1.out)) H2.out.1)).size
        rw[←hn] at H3 ⊢
        have K20_3:=ae H3.out.1 (H2.out.2) (by simp)
        have N3:Hid (n20≠n21):=by have z:=bf (H2.out.2);show _≠_;omega
        clear hn
        refine QR 16 rfl (fun K9 hK=>?_)
        ·obtain⟨y0,y1,y2,y3,y4,y5⟩:=aL (K20_3)
         have yf:=fun i=>ao (K20_3) i
         obtain⟨Z4,hZ⟩:∃ Z,Z=((((((Z3.setCell ⟨n20,0,none⟩ (.int .u8 a'.vb)).setCell ⟨n20,1,none⟩ (.int .i64 a'.on)).setCell ⟨n20,2,none⟩ (.int .i64 a'.ct)).setCell ⟨n20,3,none⟩ (.int .i64 a'.ho)).setCell ⟨n20,4,none⟩ (.bool a'.vn)).setCell ⟨n20,5,none⟩ (.bool a'.dr)):=⟨_,rfl⟩
         have H4:Hid (Z3.grownBy Z4 (some n20)∧HpB Z4 n20 a'):=⟨by rw[hZ];exact aW _ _ _ _ _ _ _ _,by rw[hZ];exact dZ a' (K20_3)⟩
         have K21_4:=ae H4.out.1 (H3.out.2) (fun e=>by have z:=N3.out;injection e with e;omega)
         go_simp
         rw[←hZ]
         clear hZ y0 y1 y2 y3 y4 y5 yf
         refine hK.out _ _ (am ((aa ((aa ((aa (ag _) H1.out)) H2.out.1)) H3.out.1)) H4.out.1 (fun y e=>by cases e;exact Hn2.out)) (fun hHeld3=>?_)
         clear hK K9
         (try go_frame)
         refine QR 17 rfl (fun K9 hK=>?_)
         ·obtain⟨y0,y1,y2,y3,y4,y5,y6,y7,y8,y9⟩:=aT (K21_4)
          have yf:=fun i=>ao (K21_4) i
          obtain⟨Z5,hZ⟩:∃ Z,Z=((((((((((Z4.setCell ⟨n21,0,none⟩ (.int .i64 s.th)).setCell ⟨n21,1,none⟩ (.int .i64 s.pl)).setCell ⟨n21,2,none⟩ (.int .u8 s.wh.wn)).setCell ⟨n21,3,none⟩ (.int .u8 s.wh.vb)).setCell ⟨n21,4,none⟩ (.int .u8 s.wh.wm)).setCell ⟨n21,5,none⟩ (.int .i64 s.wh.ct)).setCell ⟨n21,6,none⟩ (.int .u8 s.wh.su)).setCell ⟨n21,7,none⟩ (.int .u8 s.wh.tr)).setCell ⟨n21,8,none⟩ (.int .u8 s.wh.mr)).setCell ⟨n21,9,none⟩ (.string s.wh.nm)):=⟨_,rfl⟩
          have H5:Hid (Z4.grownBy Z5 (some n21)∧SdB Z5 n21 s):=⟨by rw[hZ];exact bK _ _ _ _ _ _ _ _ _ _ _ _,by rw[hZ];exact fO s (K21_4)⟩
          have K20_5:=ae H5.out.1 (H4.out.2) (fun e=>by have z:=N3.out;injection e with e;omega)
          go_simp
          rw[←hZ]
          clear hZ y0 y1 y2 y3 y4 y5 y6 y7 y8 y9 yf
          refine hK.out _ _ (am ((am ((aa ((aa ((aa (ag _) H1.out)) H2.out.1)) H3.out.1)) H4.out.1 (fun y e=>by cases e;exact Hn2.out))) H5.out.1 (fun y e=>by cases e;exact Hn3.out)) (fun hHeld3=>?_)
          clear hK K9
          (try go_frame)
          refine QZ 18 rfl ?_
          go_frame
          refine QD ?_
          go_wp2_with fail
          go_meet
          case rel=>exact⟨_,_,rfl,rfl,rfl,(am ((am ((aa ((aa ((aa (ag _) H1.out)) H2.out.1)) H3.out.1)) H4.out.1 (fun y e=>by cases e;exact Hn2.out))) H5.out.1 (fun y e=>by cases e;exact Hn3.out)),K20_5,H5.out.2⟩
      ·simp only[QA,QB,QC]
       go_simp
       refine hK.out _ _ (aa ((aa (ag _) H1.out)) (World.grownBy_alloc _ _ none)) (fun hHeld3=>?_)
       clear hK K9
       (try go_frame)
       obtain⟨Z6,hZ⟩:∃ Z,Z=Z1.alloc (.cells #[.int .i64 0,.int .i64 0,.int .u8 0,.int .u8 0,.int .u8 0,.int .i64 0,.int .u8 0,.int .u8 0,.int .u8 0,.string ⟨#[]⟩] 40):=⟨_,rfl⟩
       have H6:Hid (Z1.grownBy Z6 none∧SdB Z6 Z1.heap.size Sd.none):=⟨by rw[hZ];exact World.grownBy_alloc _ _ none,by rw[hZ];exact ai _ _ _⟩
       rw[←hZ] at hHeld3 ⊢
       clear hZ
       obtain⟨n21,hn⟩:∃ n,n=Z1.heap.size:=⟨_,rfl⟩
       have Hn6:Hid (U2.heap.size≤n21):=by show _≤_;rw[hn];exact((aa (ag _) H1.out)).size
       rw[←hn] at H6 ⊢
       clear hn
       refine QR 14 rfl (fun K9 hK=>?_)
       ·go_simp
        refine hK.out _ _ (aa ((aa ((aa (ag _) H1.out)) H6.out.1)) (World.grownBy_alloc _ _ none)) (fun hHeld3=>?_)
        clear hK K9
        (try go_frame)
        obtain⟨Z7,hZ⟩:∃ Z,Z=Z6.alloc (.cells #[.int .u8 0,.int .i64 0,.int .i64 0,.int .i64 0,.bool false,.bool false] 43):=⟨_,rfl⟩
        have H7:Hid (Z6.grownBy Z7 none∧HpB Z7 Z6.heap.size Hp.none):=⟨by rw[hZ];exact World.grownBy_alloc _ _ none,by rw[hZ];exact ai _ _ _⟩
        rw[←hZ] at hHeld3 ⊢
        clear hZ
        obtain⟨n20,hn⟩:∃ n,n=Z6.heap.size:=⟨_,rfl⟩
        have Hn7:Hid (U2.heap.size≤n20):=by show _≤_;rw[hn];exact((aa ((aa (ag _) H1.out)) H6.out.1)).size
        rw[←hn] at H7 ⊢
        have K21_7:=ae H7.out.1 (H6.out.2) (by simp)
        have N7:Hid (n21≠n20):=by have z:=bf (H6.out.2);show _≠_;omega
        clear hn
        refine QR 16 rfl (fun K9 hK=>?_)
        ·obtain⟨y0,y1,y2,y3,y4,y5⟩:=aL (H7.out.2)
         have yf:=fun i=>ao (H7.out.2) i
         obtain⟨Z8,hZ⟩:∃ Z,Z=((((((Z7.setCell ⟨n20,0,none⟩ (.int .u8 a'.vb)).setCell ⟨n20,1,none⟩ (.int .i64 a'.on)).setCell ⟨n20,2,none⟩ (.int .i64 a'.ct)).setCell ⟨n20,3,none⟩ (.int .i64 a'.ho)).setCell ⟨n20,4,none⟩ (.bool a'.vn)).setCell ⟨n20,5,none⟩ (.bool a'.dr)):=⟨_,rfl⟩
         have H8:Hid (Z7.grownBy Z8 (some n20)∧HpB Z8 n20 a'):=⟨by rw[hZ];exact aW _ _ _ _ _ _ _ _,by rw[hZ];exact dZ a' (H7.out.2)⟩
         have K21_8:=ae H8.out.1 (K21_7) (fun e=>by have z:=N7.out;injection e with e;omega)
         go_simp
         rw[←hZ]
         clear hZ y0 y1 y2 y3 y4 y5 yf
         refine hK.out _ _ (am ((aa ((aa ((aa (ag _) H1.out)) H6.out.1)) H7.out.1)) H8.out.1 (fun y e=>by cases e;exact Hn7.out)) (fun hHeld3=>?_)
         clear hK K9
         (try go_frame)
         refine QR 17 rfl (fun K9 hK=>?_)
         ·obtain⟨y0,y1,y2,y3,y4,y5,y6,y7,y8,y9⟩:=aT (K21_8)
          have yf:=fun i=>ao (K21_8) i
          obtain⟨Z9,hZ⟩:∃ Z,Z=((((((((((Z8.setCell ⟨n21,0,none⟩ (.int .i64 s.th)).setCell ⟨n21,1,none⟩ (.int .i64 s.pl)).setCell ⟨n21,2,none⟩ (.int .u8 s.wh.wn)).setCell ⟨n21,3,none⟩ (.int .u8 s.wh.vb)).setCell ⟨n21,4,none⟩ (.int .u8 s.wh.wm)).setCell ⟨n21,5,none⟩ (.int .i64 s.wh.ct)).setCell ⟨n21,6,none⟩ (.int .u8 s.wh.su)).setCell ⟨n21,7,none⟩ (.int .u8 s.wh.tr)).setCell ⟨n21,8,none⟩ (.int .u8 s.wh.mr)).setCell ⟨n21,9,none⟩ (.string s.wh.nm)):=⟨_,rfl⟩
          have H9:Hid (Z8.grownBy Z9 (some n21)∧SdB Z9 n21 s):=⟨by rw[hZ];exact bK _ _ _ _ _ _ _ _ _ _ _ _,by rw[hZ];exact fO s (K21_8)⟩
          have K20_9:=ae H9.out.1 (H8.out.2) (fun e=>by have z:=N7.out;injection e with e;omega)
          go_simp
          rw[←hZ]
          clear hZ y0 y1 y2 y3 y4 y5 y6 y7 y8 y9 yf
          refine hK.out _ _ (am ((am ((aa ((aa ((aa (ag _) H1.out)) H6.out.1)) H7.out.1)) H8.out.1 (fun y e=>by cases e;exact Hn7.out))) H9.out.1 (fun y e=>by cases e;exact Hn6.out)) (fun hHeld3=>?_)
          clear hK K9
          (try go_frame)
          refine QZ 18 rfl ?_
          go_frame
          refine QD ?_
          go_wp2_with fail
          go_meet
          case rel=>exact⟨_,_,rfl,rfl,rfl,(am ((am ((aa ((aa ((aa (ag _) H1.out)) H6.out.1)) H7.out.1)) H8.out.1 (fun y e=>by cases e;exact Hn7.out))) H9.out.1 (fun y e=>by cases e;exact Hn6.out)),K20_9,H9.out.2⟩
     ·simp only[QA,QB,QC]
      go_simp
      refine hK.out _ _ (aa (World.grownBy_alloc _ _ none) (ag _)) (fun hHeld3=>?_)
      clear hK K9
      (try go_frame)
      obtain⟨Z10,hZ⟩:∃ Z,Z=(U2.alloc (.cells #[.int .u8 0,.int .i64 0,.int .i64 0,.int .i64 0,.bool false,.bool false] 43)).drew:=⟨_,rfl⟩
      have H10:Hid (U2.grownBy Z10 none∧HpB Z10 U2.heap.size Hp.none):=⟨by rw[hZ];exact aa (World.grownBy_alloc _ _ none) (ag _),by rw[hZ];exact ae (ag _) (ai _ _ _) (by simp)⟩
      rw[←hZ] at hHeld3 ⊢
      clear hZ
      obtain⟨n20,hn⟩:∃ n,n=U2.heap.size:=⟨_,rfl⟩
      have Hn10:Hid (U2.heap.size≤n20):=by show _≤_;rw[hn];exact Nat.le_refl _
      rw[←hn] at H10 ⊢
      clear hn
      refine wpAnyH_ready (rs:=[9,15]) (by kernel_rfl) (by simp) ?_
      refine AllReadyH.cons rfl (fun K9 hK=>?_) (AllReadyH.cons rfl (fun K9 hK=>?_) AllReadyH.nil)
      ·simp only[QA,QB,QC]
       go_simp
       go_at_call 28
       refine(HCN.out _ (H10.out.1)).mono ?_
       rintro e9 Z11 ⟨rfl,g9⟩
       have H11:Hid (Z10.grownBy Z11 none):=g9
       clear g9
       have K20_11:=ae H11.out (H10.out.2) (by simp)
       refine hK.out _ _ (aa (H10.out.1) H11.out) (fun hHeld3=>?_)
       clear hK K9
       (try go_frame)
       refine QZ 10 rfl ?_
       go_frame
       refine QZ 11 rfl ?_
       go_frame
       refine QZ 12 rfl ?_
       go_frame
       refine QZ 13 rfl ?_
       go_frame
       refine QR 15 rfl (fun K9 hK=>?_)
       ·go_simp
        refine hK.out _ _ (aa ((aa (H10.out.1) H11.out)) (World.grownBy_alloc _ _ none)) (fun hHeld3=>?_)
        clear hK K9
        (try go_frame)
        obtain⟨Z12,hZ⟩:∃ Z,Z=Z11.alloc (.cells #[.int .i64 0,.int .i64 0,.int .u8 0,.int .u8 0,.int .u8 0,.int .i64 0,.int .u8 0,.int .u8 0,.int .u8 0,.string ⟨#[]⟩] 40):=⟨_,rfl⟩
        have H12:Hid (Z11.grownBy Z12 none∧SdB Z12 Z11.heap.size Sd.none):=⟨by rw[hZ];exact World.grownBy_alloc _ _ none,by rw[hZ];exact ai _ _ _⟩
        rw[←hZ] at hHeld3 ⊢
        clear hZ
        obtain⟨n21,hn⟩:∃ n,n=Z11.heap.size:=⟨_,rfl⟩
        have Hn12:Hid (U2.heap.size≤n21):=by show _≤_;rw[hn];exact((aa (H10.out.1) H11.out)).size
        rw[←hn] at H12 ⊢
        have K20_12:=ae H12.out.1 (K20_11) (by simp)
        have N12:Hid (n20≠n21):=by have z:=bf (K20_11);show _≠_;omega
        clear hn
        refine QR 16 rfl (fun K9 hK=>?_)
        ·obtain⟨y0,y1,y2,y3,y4,y5⟩:=aL (K20_12)
         have yf:=fun i=>ao (K20_12) i
         obtain⟨Z13,hZ⟩:∃ Z,Z=((((((Z12.setCell ⟨n20,0,none⟩ (.int .u8 a'.vb)).setCell ⟨n20,1,none⟩ (.int .i64 a'.on)).setCell ⟨n20,2,none⟩ (.int .i64 a'.ct)).setCell ⟨n20,3,none⟩ (.int .i64 a'.ho)).setCell ⟨n20,4,none⟩ (.bool a'.vn)).setCell ⟨n20,5,none⟩ (.bool a'.dr)):=⟨_,rfl⟩
         have H13:Hid (Z12.grownBy Z13 (some n20)∧HpB Z13 n20 a'):=⟨by rw[hZ];exact aW _ _ _ _ _ _ _ _,by rw[hZ];exact dZ a' (K20_12)⟩
         have K21_13:=ae H13.out.1 (H12.out.2) (fun e=>by have z:=N12.out;injection e with e;omega)
         go_simp
         rw[←hZ]
         clear hZ y0 y1 y2 y3 y4 y5 yf
         refine hK.out _ _ (am ((aa ((aa (H10.out.1) H11.out)) H12.out.1)) H13.out.1 (fun y e=>by cases e;exact Hn10.out)) (fun hHeld3=>?_)
         clear hK K9
         (try go_frame)
         refine QR 17 rfl (fun K9 hK=>?_)
         ·obtain⟨y0,y1,y2,y3,y4,y5,y6,y7,y8,y9⟩:=aT (K21_13)
          have yf:=fun i=>ao (K21_13) i
          obtain⟨Z14,hZ⟩:∃ Z,Z=((((((((((Z13.setCell ⟨n21,0,none⟩ (.int .i64 s.th)).setCell ⟨n21,1,none⟩ (.int .i64 s.pl)).setCell ⟨n21,2,none⟩ (.int .u8 s.wh.wn)).setCell ⟨n21,3,none⟩ (.int .u8 s.wh.vb)).setCell ⟨n21,4,none⟩ (.int .u8 s.wh.wm)).setCell ⟨n21,5,none⟩ (.int .i64 s.wh.ct)).setCell ⟨n21,6,none⟩ (.int .u8 s.wh.su)).setCell ⟨n21,7,none⟩ (.int .u8 s.wh.tr)).setCell ⟨n21,8,none⟩ (.int .u8 s.wh.mr)).setCell ⟨n21,9,none⟩ (.string s.wh.nm)):=⟨_,rfl⟩
          have H14:Hid (Z13.grownBy Z14 (some n21)∧SdB Z14 n21 s):=⟨by rw[hZ];exact bK _ _ _ _ _ _ _ _ _ _ _ _,by rw[hZ];exact fO s (K21_13)⟩
          have K20_14:=ae H14.out.1 (H13.out.2) (fun e=>by have z:=N12.out;injection e with e;omega)
          go_simp
          rw[←hZ]
          clear hZ y0 y1 y2 y3 y4 y5 y6 y7 y8 y9 yf
          refine hK.out _ _ (am ((am ((aa ((aa (H10.out.1) H11.out)) H12.out.1)) H13.out.1 (fun y e=>by cases e;exact Hn10.out))) H14.out.1 (fun y e=>by cases e;exact Hn12.out)) (fun hHeld3=>?_)
          clear hK K9
          (try go_frame)
          refine QZ 18 rfl ?_
          go_frame
          refine QD ?_
          go_wp2_with fail
          go_meet
          case rel=>exact⟨_,_,rfl,rfl,rfl,(am ((am ((aa ((aa (H10.out.1) H11.out)) H12.out.1)) H13.out.1 (fun y e=>by cases e;exact Hn10.out))) H14.out.1 (fun y e=>by cases e;exact Hn12.out)),K20_14,H14.out.2⟩
      ·simp only[QA,QB,QC]
       go_simp
       refine hK.out _ _ (aa (H10.out.1) (World.grownBy_alloc _ _ none)) (fun hHeld3=>?_)
       clear hK K9
       (try go_frame)
       obtain⟨Z15,hZ⟩:∃ Z,Z=Z10.alloc (.cells #[.int .i64 0,.int .i64 0,.int .u8 0,.int .u8 0,.int .u8 0,.int .i64 0,.int .u8 0,.int .u8 0,.int .u8 0,.string ⟨#[]⟩] 40):=⟨_,rfl⟩
       have H15:Hid (Z10.grownBy Z15 none∧SdB Z15 Z10.heap.size Sd.none):=⟨by rw[hZ];exact World.grownBy_alloc _ _ none,by rw[hZ];exact ai _ _ _⟩
       rw[←hZ] at hHeld3 ⊢
       clear hZ
       obtain⟨n21,hn⟩:∃ n,n=Z10.heap.size:=⟨_,rfl⟩
       have Hn15:Hid (U2.heap.size≤n21):=by show _≤_;rw[hn];exact(H10.out.1).size
       rw[←hn] at H15 ⊢
       have K20_15:=ae H15.out.1 (H10.out.2) (by simp)
       have N15:Hid (n20≠n21):=by have z:=bf (H10.out.2);show _≠_;omega
       clear hn
       refine QR 9 rfl (fun K9 hK=>?_)
       ·go_simp
        go_at_call 28
        refine(HCN.out _ ((aa (H10.out.1) H15.out.1))).mono ?_
        rintro e9 Z16 ⟨rfl,g9⟩
        have H16:Hid (Z15.grownBy Z16 none):=g9
        clear g9
        have K20_16:=ae H16.out (K20_15) (by simp)
        have K21_16:=ae H16.out (H15.out.2) (by simp)
        refine hK.out _ _ (aa ((aa (H10.out.1) H15.out.1)) H16.out) (fun hHeld3=>?_)
        clear hK K9
        (try go_frame)
        refine QZ 10 rfl ?_
        go_frame
        refine QZ 11 rfl ?_
        go_frame
        refine QZ 12 rfl ?_
        go_frame
        refine QZ 13 rfl ?_
        go_frame
        refine QR 16 rfl (fun K9 hK=>?_)
        ·obtain⟨y0,y1,y2,y3,y4,y5⟩:=aL (K20_16)
         have yf:=fun i=>ao (K20_16) i
         obtain⟨Z17,hZ⟩:∃ Z,Z=((((((Z16.setCell ⟨n20,0,none⟩ (.int .u8 a'.vb)).setCell ⟨n20,1,none⟩ (.int .i64 a'.on)).setCell ⟨n20,2,none⟩ (.int .i64 a'.ct)).setCell ⟨n20,3,none⟩ (.int .i64 a'.ho)).setCell ⟨n20,4,none⟩ (.bool a'.vn)).setCell ⟨n20,5,none⟩ (.bool a'.dr)):=⟨_,rfl⟩
         have H17:Hid (Z16.grownBy Z17 (some n20)∧HpB Z17 n20 a'):=⟨by rw[hZ];exact aW _ _ _ _ _ _ _ _,by rw[hZ];exact dZ a' (K20_16)⟩
         have K21_17:=ae H17.out.1 (K21_16) (fun e=>by have z:=N15.out;injection e with e;omega)
         go_simp
         rw[←hZ]
         clear hZ y0 y1 y2 y3 y4 y5 yf
         refine hK.out _ _ (am ((aa ((aa (H10.out.1) H15.out.1)) H16.out)) H17.out.1 (fun y e=>by cases e;exact Hn10.out)) (fun hHeld3=>?_)
         clear hK K9
         (try go_frame)
         refine QR 17 rfl (fun K9 hK=>?_)
         ·obtain⟨y0,y1,y2,y3,y4,y5,y6,y7,y8,y9⟩:=aT (K21_17)
          have yf:=fun i=>ao (K21_17) i
          obtain⟨Z18,hZ⟩:∃ Z,Z=((((((((((Z17.setCell ⟨n21,0,none⟩ (.int .i64 s.th)).setCell ⟨n21,1,none⟩ (.int .i64 s.pl)).setCell ⟨n21,2,none⟩ (.int .u8 s.wh.wn)).setCell ⟨n21,3,none⟩ (.int .u8 s.wh.vb)).setCell ⟨n21,4,none⟩ (.int .u8 s.wh.wm)).setCell ⟨n21,5,none⟩ (.int .i64 s.wh.ct)).setCell ⟨n21,6,none⟩ (.int .u8 s.wh.su)).setCell ⟨n21,7,none⟩ (.int .u8 s.wh.tr)).setCell ⟨n21,8,none⟩ (.int .u8 s.wh.mr)).setCell ⟨n21,9,none⟩ (.string s.wh.nm)):=⟨_,rfl⟩
          have H18:Hid (Z17.grownBy Z18 (some n21)∧SdB Z18 n21 s):=⟨by rw[hZ];exact bK _ _ _ _ _ _ _ _ _ _ _ _,by rw[hZ];exact fO s (K21_17)⟩
          have K20_18:=ae H18.out.1 (H17.out.2) (fun e=>by have z:=N15.out;injection e with e;omega)
          go_simp
          rw[←hZ]
          clear hZ y0 y1 y2 y3 y4 y5 y6 y7 y8 y9 yf
          refine hK.out _ _ (am ((am ((aa ((aa (H10.out.1) H15.out.1)) H16.out)) H17.out.1 (fun y e=>by cases e;exact Hn10.out))) H18.out.1 (fun y e=>by cases e;exact Hn15.out)) (fun hHeld3=>?_)
          clear hK K9
          (try go_frame)
          refine QZ 18 rfl ?_
          go_frame
          refine QD ?_
          go_wp2_with fail
          go_meet
          case rel=>exact⟨_,_,rfl,rfl,rfl,(am ((am ((aa ((aa (H10.out.1) H15.out.1)) H16.out)) H17.out.1 (fun y e=>by cases e;exact Hn10.out))) H18.out.1 (fun y e=>by cases e;exact Hn15.out)),K20_18,H18.out.2⟩
     ·simp only[QA,QB,QC]
      go_simp
      refine hK.out _ _ (aa (World.grownBy_alloc _ _ none) (ag _)) (fun hHeld3=>?_)
      clear hK K9
      (try go_frame)
      obtain⟨Z19,hZ⟩:∃ Z,Z=(U2.alloc (.cells #[.int .i64 0,.int .i64 0,.int .u8 0,.int .u8 0,.int .u8 0,.int .i64 0,.int .u8 0,.int .u8 0,.int .u8 0,.string ⟨#[]⟩] 40)).drew:=⟨_,rfl⟩
      have H19:Hid (U2.grownBy Z19 none∧SdB Z19 U2.heap.size Sd.none):=⟨by rw[hZ];exact aa (World.grownBy_alloc _ _ none) (ag _),by rw[hZ];exact ae (ag _) (ai _ _ _) (by simp)⟩
      rw[←hZ] at hHeld3 ⊢
      clear hZ
      obtain⟨n21,hn⟩:∃ n,n=U2.heap.size:=⟨_,rfl⟩
      have Hn19:Hid (U2.heap.size≤n21):=by show _≤_;rw[hn];exact Nat.le_refl _
      rw[←hn] at H19 ⊢
      clear hn
      refine wpAnyH_ready (rs:=[9,14]) (by kernel_rfl) (by simp) ?_
      refine AllReadyH.cons rfl (fun K9 hK=>?_) (AllReadyH.cons rfl (fun K9 hK=>?_) AllReadyH.nil)
      ·simp only[QA,QB,QC]
       go_simp
       go_at_call 28
       refine(HCN.out _ (H19.out.1)).mono ?_
       rintro e9 Z20 ⟨rfl,g9⟩
       have H20:Hid (Z19.grownBy Z20 none):=g9
       clear g9
       have K21_20:=ae H20.out (H19.out.2) (by simp)
       refine hK.out _ _ (aa (H19.out.1) H20.out) (fun hHeld3=>?_)
       clear hK K9
       (try go_frame)
       refine QZ 10 rfl ?_
       go_frame
       refine QZ 11 rfl ?_
       go_frame
       refine QZ 12 rfl ?_
       go_frame
       refine QZ 13 rfl ?_
       go_frame
       refine QR 14 rfl (fun K9 hK=>?_)
       ·go_simp
        refine hK.out _ _ (aa ((aa (H19.out.1) H20.out)) (World.grownBy_alloc _ _ none)) (fun hHeld3=>?_)
        clear hK K9
        (try go_frame)
        obtain⟨Z21,hZ⟩:∃ Z,Z=Z20.alloc (.cells #[.int .u8 0,.int .i64 0,.int .i64 0,.int .i64 0,.bool false,.bool false] 43):=⟨_,rfl⟩
        have H21:Hid (Z20.grownBy Z21 none∧HpB Z21 Z20.heap.size Hp.none):=⟨by rw[hZ];exact World.grownBy_alloc _ _ none,by rw[hZ];exact ai _ _ _⟩
        rw[←hZ] at hHeld3 ⊢
        clear hZ
        obtain⟨n20,hn⟩:∃ n,n=Z20.heap.size:=⟨_,rfl⟩
        have Hn21:Hid (U2.heap.size≤n20):=by show _≤_;rw[hn];exact((aa (H19.out.1) H20.out)).size
        rw[←hn] at H21 ⊢
        have K21_21:=ae H21.out.1 (K21_20) (by simp)
        have N21:Hid (n21≠n20):=by have z:=bf (K21_20);show _≠_;omega
        clear hn
        refine QR 16 rfl (fun K9 hK=>?_)
        ·obtain⟨y0,y1,y2,y3,y4,y5⟩:=aL (H21.out.2)
         have yf:=fun i=>ao (H21.out.2) i
         obtain⟨Z22,hZ⟩:∃ Z,Z=((((((Z21.setCell ⟨n20,0,none⟩ (.int .u8 a'.vb)).setCell ⟨n20,1,none⟩ (.int .i64 a'.on)).setCell ⟨n20,2,none⟩ (.int .i64 a'.ct)).setCell ⟨n20,3,none⟩ (.int .i64 a'.ho)).setCell ⟨n20,4,none⟩ (.bool a'.vn)).setCell ⟨n20,5,none⟩ (.bool a'.dr)):=⟨_,rfl⟩
         have H22:Hid (Z21.grownBy Z22 (some n20)∧HpB Z22 n20 a'):=⟨by rw[hZ];exact aW _ _ _ _ _ _ _ _,by rw[hZ];exact dZ a' (H21.out.2)⟩
         have K21_22:=ae H22.out.1 (K21_21) (fun e=>by have z:=N21.out;injection e with e;omega)
         go_simp
         rw[←hZ]
         clear hZ y0 y1 y2 y3 y4 y5 yf
         refine hK.out _ _ (am ((aa ((aa (H19.out.1) H20.out)) H21.out.1)) H22.out.1 (fun y e=>by cases e;exact Hn21.out)) (fun hHeld3=>?_)
         clear hK K9
         (try go_frame)
         refine QR 17 rfl (fun K9 hK=>?_)
         ·obtain⟨y0,y1,y2,y3,y4,y5,y6,y7,y8,y9⟩:=aT (K21_22)
          have yf:=fun i=>ao (K21_22) i
          obtain⟨Z23,hZ⟩:∃ Z,Z=((((((((((Z22.setCell ⟨n21,0,none⟩ (.int .i64 s.th)).setCell ⟨n21,1,none⟩ (.int .i64 s.pl)).setCell ⟨n21,2,none⟩ (.int .u8 s.wh.wn)).setCell ⟨n21,3,none⟩ (.int .u8 s.wh.vb)).setCell ⟨n21,4,none⟩ (.int .u8 s.wh.wm)).setCell ⟨n21,5,none⟩ (.int .i64 s.wh.ct)).setCell ⟨n21,6,none⟩ (.int .u8 s.wh.su)).setCell ⟨n21,7,none⟩ (.int .u8 s.wh.tr)).setCell ⟨n21,8,none⟩ (.int .u8 s.wh.mr)).setCell ⟨n21,9,none⟩ (.string s.wh.nm)):=⟨_,rfl⟩
          have H23:Hid (Z22.grownBy Z23 (some n21)∧SdB Z23 n21 s):=⟨by rw[hZ];exact bK _ _ _ _ _ _ _ _ _ _ _ _,by rw[hZ];exact fO s (K21_22)⟩
          have K20_23:=ae H23.out.1 (H22.out.2) (fun e=>by have z:=N21.out;injection e with e;omega)
          go_simp
          rw[←hZ]
          clear hZ y0 y1 y2 y3 y4 y5 y6 y7 y8 y9 yf
          refine hK.out _ _ (am ((am ((aa ((aa (H19.out.1) H20.out)) H21.out.1)) H22.out.1 (fun y e=>by cases e;exact Hn21.out))) H23.out.1 (fun y e=>by cases e;exact Hn19.out)) (fun hHeld3=>?_)
          clear hK K9
          (try go_frame)
          refine QZ 18 rfl ?_
          go_frame
          refine QD ?_
          go_wp2_with fail
          go_meet
          case rel=>exact⟨_,_,rfl,rfl,rfl,(am ((am ((aa ((aa (H19.out.1) H20.out)) H21.out.1)) H22.out.1 (fun y e=>by cases e;exact Hn21.out))) H23.out.1 (fun y e=>by cases e;exact Hn19.out)),K20_23,H23.out.2⟩
      ·simp only[QA,QB,QC]
       go_simp
       refine hK.out _ _ (aa (H19.out.1) (World.grownBy_alloc _ _ none)) (fun hHeld3=>?_)
       clear hK K9
       (try go_frame)
       obtain⟨Z24,hZ⟩:∃ Z,Z=Z19.alloc (.cells #[.int .u8 0,.int .i64 0,.int .i64 0,.int .i64 0,.bool false,.bool false] 43):=⟨_,rfl⟩
       have H24:Hid (Z19.grownBy Z24 none∧HpB Z24 Z19.heap.size Hp.none):=⟨by rw[hZ];exact World.grownBy_alloc _ _ none,by rw[hZ];exact ai _ _ _⟩
       rw[←hZ] at hHeld3 ⊢
       clear hZ
       obtain⟨n20,hn⟩:∃ n,n=Z19.heap.size:=⟨_,rfl⟩
       have Hn24:Hid (U2.heap.size≤n20):=by show _≤_;rw[hn];exact(H19.out.1).size
       rw[←hn] at H24 ⊢
       have K21_24:=ae H24.out.1 (H19.out.2) (by simp)
       have N24:Hid (n21≠n20):=by have z:=bf (H19.out.2);show _≠_;omega
       clear hn
       refine QR 9 rfl (fun K9 hK=>?_)
       ·go_simp
        go_at_call 28
        refine(HCN.out _ ((aa (H19.out.1) H24.out.1))).mono ?_
        rintro e9 Z25 ⟨rfl,g9⟩
        have H25:Hid (Z24.grownBy Z25 none):=g9
        clear g9
        have K20_25:=ae H25.out (H24.out.2) (by simp)
        have K21_25:=ae H25.out (K21_24) (by simp)
        refine hK.out _ _ (aa ((aa (H19.out.1) H24.out.1)) H25.out) (fun hHeld3=>?_)
        clear hK K9
        (try go_frame)
        refine QZ 10 rfl ?_
        go_frame
        refine QZ 11 rfl ?_
        go_frame
        refine QZ 12 rfl ?_
        go_frame
        refine QZ 13 rfl ?_
        go_frame
        refine QR 16 rfl (fun K9 hK=>?_)
        ·obtain⟨y0,y1,y2,y3,y4,y5⟩:=aL (K20_25)
         have yf:=fun i=>ao (K20_25) i
         obtain⟨Z26,hZ⟩:∃ Z,Z=((((((Z25.setCell ⟨n20,0,none⟩ (.int .u8 a'.vb)).setCell ⟨n20,1,none⟩ (.int .i64 a'.on)).setCell ⟨n20,2,none⟩ (.int .i64 a'.ct)).setCell ⟨n20,3,none⟩ (.int .i64 a'.ho)).setCell ⟨n20,4,none⟩ (.bool a'.vn)).setCell ⟨n20,5,none⟩ (.bool a'.dr)):=⟨_,rfl⟩
         have H26:Hid (Z25.grownBy Z26 (some n20)∧HpB Z26 n20 a'):=⟨by rw[hZ];exact aW _ _ _ _ _ _ _ _,by rw[hZ];exact dZ a' (K20_25)⟩
         have K21_26:=ae H26.out.1 (K21_25) (fun e=>by have z:=N24.out;injection e with e;omega)
         go_simp
         rw[←hZ]
         clear hZ y0 y1 y2 y3 y4 y5 yf
         refine hK.out _ _ (am ((aa ((aa (H19.out.1) H24.out.1)) H25.out)) H26.out.1 (fun y e=>by cases e;exact Hn24.out)) (fun hHeld3=>?_)
         clear hK K9
         (try go_frame)
         refine QR 17 rfl (fun K9 hK=>?_)
         ·obtain⟨y0,y1,y2,y3,y4,y5,y6,y7,y8,y9⟩:=aT (K21_26)
          have yf:=fun i=>ao (K21_26) i
          obtain⟨Z27,hZ⟩:∃ Z,Z=((((((((((Z26.setCell ⟨n21,0,none⟩ (.int .i64 s.th)).setCell ⟨n21,1,none⟩ (.int .i64 s.pl)).setCell ⟨n21,2,none⟩ (.int .u8 s.wh.wn)).setCell ⟨n21,3,none⟩ (.int .u8 s.wh.vb)).setCell ⟨n21,4,none⟩ (.int .u8 s.wh.wm)).setCell ⟨n21,5,none⟩ (.int .i64 s.wh.ct)).setCell ⟨n21,6,none⟩ (.int .u8 s.wh.su)).setCell ⟨n21,7,none⟩ (.int .u8 s.wh.tr)).setCell ⟨n21,8,none⟩ (.int .u8 s.wh.mr)).setCell ⟨n21,9,none⟩ (.string s.wh.nm)):=⟨_,rfl⟩
          have H27:Hid (Z26.grownBy Z27 (some n21)∧SdB Z27 n21 s):=⟨by rw[hZ];exact bK _ _ _ _ _ _ _ _ _ _ _ _,by rw[hZ];exact fO s (K21_26)⟩
          have K20_27:=ae H27.out.1 (H26.out.2) (fun e=>by have z:=N24.out;injection e with e;omega)
          go_simp
          rw[←hZ]
          clear hZ y0 y1 y2 y3 y4 y5 y6 y7 y8 y9 yf
          refine hK.out _ _ (am ((am ((aa ((aa (H19.out.1) H24.out.1)) H25.out)) H26.out.1 (fun y e=>by cases e;exact Hn24.out))) H27.out.1 (fun y e=>by cases e;exact Hn19.out)) (fun hHeld3=>?_)
          clear hK K9
          (try go_frame)
          refine QZ 18 rfl ?_
          go_frame
          refine QD ?_
          go_wp2_with fail
          go_meet
          case rel=>exact⟨_,_,rfl,rfl,rfl,(am ((am ((aa ((aa (H19.out.1) H24.out.1)) H25.out)) H26.out.1 (fun y e=>by cases e;exact Hn24.out))) H27.out.1 (fun y e=>by cases e;exact Hn19.out)),K20_27,H27.out.2⟩
    case rest =>
    obtain⟨n20,n21,rfl,rfl,rfl,HC⟩:=hcut
    obtain⟨U3,hU3⟩:∃ U3,U3=wc:=⟨_,rfl⟩
    subst hU3
    clear f0 f1 f2 f3 f4 f5 k20 k21 k22 k23 k24 k25 x0 x1 x2 x3 x4 x5 x6 x7 x8
    have HV3:Hid (OnV w U3 b0 b1 nX (.slice pc cs.length kc) (.slice pm ms.length km) (.slice pt ts.length ct) (.slice pf fs.length cf) (.slice (some ⟨gL,oL,none⟩) L.length cL) (.slice pF F.length cF) (.slice (some ⟨gU,oU,none⟩) x.us.length cU) op ow cs ms ts fs F L h x):=HV2.out.keep HC.out.1
    have HA3:Hid (HpB U3 nA a∧U3.rangeAt gU (oU+k*10) (sdc s)∧V.grownBy U3 none):=⟨ae HC.out.1 HA2.out.1 (by simp),bn HA2.out.2.1 HC.out.1,aa HA2.out.2.2 HC.out.1⟩
    obtain⟨f0,f1,f2,f3,f4,f5⟩:=fa HV3.out.pr.tb
    obtain⟨x0,x1,x2,x3,x4,x5,x6,x7,x8⟩:=bz HV3.out.xb
    obtain⟨r0,r1,r2,r3,r4,r5,r6,r7,r8,r9⟩:=bu HA3.out.2.1
    obtain⟨d0,d1,d2,d3,d4,d5,d6,d7,d8,d9⟩:=aT HC.out.2.2
    obtain⟨k20,k21,k22,k23,k24,k25⟩:=aL HA3.out.1
    have hq1:=Dv s
    have hgq:=pz
    go_upto_region 23 with fail
    go_cut [164] from 140 to 164 (fun b wc=>b=.bool false∧U3.grownBy wc none)
    case first =>
     refine wp_region_held_drew (S:=fun w'=>U3.grownBy w' none) (by kernel_rfl) (ag _) (fun hHeld=>?_)
     refine QZ 0 rfl ?_
     go_frame
     refine QZ 1 rfl ?_
     go_frame
     refine QZ 2 rfl ?_
     go_frame
     refine QZ 3 rfl ?_
     go_frame
     refine QZ 4 rfl ?_
     go_frame
     refine QZ 5 rfl ?_
     go_frame
     refine QZ 6 rfl ?_
     go_frame
     refine QT 7 rfl (by intro w0 hSw;have d0:=hSw.cell d0 (by simp);have d1:=hSw.cell d1 (by simp);have d2:=hSw.cell d2 (by simp);have d3:=hSw.cell d3 (by simp);have d4:=hSw.cell d4 (by simp);have d5:=hSw.cell d5 (by simp);have d6:=hSw.cell d6 (by simp);have d7:=hSw.cell d7 (by simp);have d8:=hSw.cell d8 (by simp);have d9:=hSw.cell d9 (by simp);go_simp;try with_reducible rfl) ?_
     go_frame
     refine QZ 8 rfl ?_
     go_frame
     refine QT 9 rfl (by intro w0 hSw;have x6:=hSw.cell x6 (by simp);go_simp;try with_reducible rfl) ?_
     go_frame
     refine QZ 10 rfl ?_
     go_frame
     refine QZ 11 rfl ?_
     go_frame
     refine QT 12 rfl (by intro w0 hSw;have r0:=hSw.cell r0 (by simp);have r1:=hSw.cell r1 (by simp);have r2:=hSw.cell r2 (by simp);have r3:=hSw.cell r3 (by simp);have r4:=hSw.cell r4 (by simp);have r5:=hSw.cell r5 (by simp);have r6:=hSw.cell r6 (by simp);have r7:=hSw.cell r7 (by simp);have r8:=hSw.cell r8 (by simp);have r9:=hSw.cell r9 (by simp);go_simp;try with_reducible rfl) ?_
     go_frame
     refine QZ 13 rfl ?_
     go_frame
     refine QZ 14 rfl ?_
     go_frame
     refine QZ 15 rfl ?_
     go_frame
     refine QZ 16 rfl ?_
     go_frame
     refine QZ 17 rfl ?_
     go_frame
     refine QT 18 rfl (by intro w0 hSw;have f3:=hSw.cell f3 (by simp);go_simp;try with_reducible rfl) ?_
     go_frame
     refine QZ 19 rfl ?_
     go_frame
     refine QT 20 rfl (by intro w0 hSw;have d0:=hSw.cell d0 (by simp);have d1:=hSw.cell d1 (by simp);have d2:=hSw.cell d2 (by simp);have d3:=hSw.cell d3 (by simp);have d4:=hSw.cell d4 (by simp);have d5:=hSw.cell d5 (by simp);have d6:=hSw.cell d6 (by simp);have d7:=hSw.cell d7 (by simp);have d8:=hSw.cell d8 (by simp);have d9:=hSw.cell d9 (by simp);go_simp;try with_reducible rfl) ?_
     go_frame
     refine QT 21 rfl (by intro w0 hSw;have k20:=hSw.cell k20 (by simp);have k21:=hSw.cell k21 (by simp);have k22:=hSw.cell k22 (by simp);have k23:=hSw.cell k23 (by simp);have k24:=hSw.cell k24 (by simp);have k25:=hSw.cell k25 (by simp);go_simp;try with_reducible rfl) ?_
     go_frame
     clear f0 f1 f2 f3 f4 f5 k20 k21 k22 k23 k24 k25 x0 x1 x2 x3 x4 x5 x6 x7 x8 d0 d1 d2 d3 d4 d5 d6 d7 d8 d9 r0 r1 r2 r3 r4 r5 r6 r7 r8 r9 hq1 hgq
     refine QR 22 rfl (fun K hK=>?_)
     rw[if_pos (by rfl)]
     go_simp
     go_at_call 31
     refine(HCS.out _ (aa HC.out.1 (ag _))).mono ?_
     rintro e9 w9 ⟨rfl,g9⟩
     have H9:Hid (U3.grownBy w9 none):=aa (ag _) g9
     clear g9
     refine hK.out _ _ (H9.out) (fun hHeld2=>?_)
     clear hK K
     (try go_frame)
     refine QZ 23 rfl ?_
     go_frame
     refine QZ 24 rfl ?_
     go_frame
     refine QD ?_
     go_wp2_with fail
     go_meet
     case rel=>exact⟨rfl,H9.out⟩
    case rest =>
    obtain⟨rfl,hG⟩:=hcut
    obtain⟨U4,hU4⟩:∃ U4,U4=wc:=⟨_,rfl⟩
    subst hU4
    have HG4:Hid (U3.grownBy U4 none):=hG
    clear hG f0 f1 f2 f3 f4 f5 k20 k21 k22 k23 k24 k25 x0 x1 x2 x3 x4 x5 x6 x7 x8 d0 d1 d2 d3 d4 d5 d6 d7 d8 d9 r0 r1 r2 r3 r4 r5 r6 r7 r8 r9 hq1 hgq
    have HA4:Hid (HpB U4 nA a∧HpB U4 n20 a'∧V.grownBy U4 none):=⟨ae HG4.out HA3.out.1 (by simp),ae HG4.out HC.out.2.1 (by simp),aa HA3.out.2.2 HG4.out⟩
    obtain⟨k20,k21,k22,k23,k24,k25⟩:=aL HA4.out.2.1
    obtain⟨y0,y1,y2,y3,y4,y5⟩:=aL HA4.out.1
    have yf:=fun i=>ao HA4.out.1 i
    obtain⟨U5,hU5⟩:∃ U5,U5=(((((U4.setCell ⟨nA,0,none⟩ (.int .u8 a'.vb)).setCell ⟨nA,1,none⟩ (.int .i64 a'.on)).setCell ⟨nA,2,none⟩ (.int .i64 a'.ct)).setCell ⟨nA,3,none⟩ (.int .i64 a'.ho)).setCell ⟨nA,4,none⟩ (.bool a'.vn)).setCell ⟨nA,5,none⟩ (.bool a'.dr):=⟨_,rfl⟩
    have HA5:Hid (V.grownBy U5 none∧HpB U5 nA (atN F h x.us (k+1))):=⟨by rw[hU5];exact am HA4.out.2.2 (aW _ _ _ _ _ _ _ _) (fun y e=>by cases e;exact HnA.out),by rw[←HAA.out.2,hU5];exact dZ a' HA4.out.1⟩
    go_upto_region 10 with fail
    rw[←hU5]
    clear hU5 k20 k21 k22 k23 k24 k25 y0 y1 y2 y3 y4 y5 yf
    go_wp2_with fail
    go_roundw
    case rel=>exact⟨k+1,HQ.out.2.2.2,by first | rfl | (rw[hwk];rfl) | go_num,HA5.out⟩
    case measure=>first | exact HM.out | (rw[hwk];exact HM.out)
   ·obtain rfl:k=x.us.length:=Nat.le_antisymm hk (Nat.le_of_not_lt hlt)
    have k1:¬(x.us.length:Int)<(x.us.length:Int):=Int.lt_irrefl _
    have HA6:Hid (HpB U nA (atN F h x.us x.us.length)):=HK.out.2
    have HG6:Hid (w1.grownBy U none):=aa HV.out.2 HK.out.1
    clear hk hlt HK HV HnA
    obtain⟨sh,hsh⟩:∃ sh,sh=(decide (h.vb=1) && (decide (x.us.length=0) && (decide (h.ct<1) || decide (x.go=1)))):=⟨_,rfl⟩
    have Hsh:Hid (sh=(decide (h.vb=1) && (decide (x.us.length=0) && (decide (h.ct<1) || decide (x.go=1))))):=hsh
    clear hsh
    obtain⟨x0,x1,x2,x3,x4,x5,x6,x7,x8⟩:=bz HVU.out.xb
    obtain⟨k10,k11,k12,k13,k14,k15⟩:=aL HVU.out.pr.hb
    go_upto_region 26 with fail
    go_cut [23] from 166 to 184 (fun b wc=>b=.bool sh∧U.grownBy wc none)
    case first =>
     by_cases v1:h.vb=1
     ·have d1:(h.vb == 1)=true:=by rw[v1];rfl
      by_cases v2:x.us.length=0
      ·have d2:((x.us.length:Int) == 0)=true:=by rw[v2];rfl
       by_cases v3:h.ct<1
       ·have d3:decide (h.ct<1)=true:=decide_eq_true v3
        have HE:Hid (sh=true):=by show _=_;rw[Hsh.out,decide_eq_true v1,decide_eq_true v2,d3];rfl
        clear v1 v2 v3
        go_wp2_with fail
        go_meet
        case rel=>exact⟨by rw[HE.out] <;> rfl,aq _ _⟩
       ·have d3:decide (h.ct<1)=false:=decide_eq_false v3
        by_cases v4:x.go=1
        ·have d4:(x.go == 1)=true:=by rw[v4];rfl
         have HE:Hid (sh=true):=by show _=_;rw[Hsh.out,decide_eq_true v1,decide_eq_true v2,d3,decide_eq_true v4];rfl
         clear v1 v2 v3 v4
         go_wp2_with fail
         go_meet
         case rel=>exact⟨by rw[HE.out] <;> rfl,aq _ _⟩
        ·have d4:(x.go == 1)=false:=by simpa using v4
         have HE:Hid (sh=false):=by show _=_;rw[Hsh.out,decide_eq_true v1,decide_eq_true v2,d3,decide_eq_false v4];rfl
         clear v1 v2 v3 v4
         go_wp2_with fail
         go_meet
         case rel=>exact⟨by rw[HE.out] <;> rfl,aq _ _⟩
      ·have d2:((x.us.length:Int) == 0)=false:=by rw[beq_eq_false_iff_ne];omega
       have HE:Hid (sh=false):=by show _=_;rw[Hsh.out,decide_eq_true v1,decide_eq_false v2];rfl
       clear v1 v2
       go_wp2_with fail
       go_meet
       case rel=>exact⟨by rw[HE.out] <;> rfl,aq _ _⟩
     ·have d1:(h.vb == 1)=false:=by simpa using v1
      have HE:Hid (sh=false):=by show _=_;rw[Hsh.out,decide_eq_false v1];rfl
      clear v1
      go_wp2_with fail
      go_meet
      case rel=>exact⟨by rw[HE.out] <;> rfl,aq _ _⟩
    case rest =>
    obtain⟨rfl,hG⟩:=hcut
    obtain⟨U1,hU1⟩:∃ U1,U1=wc:=⟨_,rfl⟩
    subst hU1
    clear k10 k11 k12 k13 k14 k15 x0 x1 x2 x3 x4 x5 x6 x7 x8
    have HV1:Hid (OnV w U1 b0 b1 nX (.slice pc cs.length kc) (.slice pm ms.length km) (.slice pt ts.length ct) (.slice pf fs.length cf) (.slice pL L.length cL) (.slice pF F.length cF) (.slice pU x.us.length cU) op ow cs ms ts fs F L h x∧w1.grownBy U1 none∧HpB U1 nA (atN F h x.us x.us.length)):=⟨HVU.out.keep hG,aa HG6.out hG,ae hG HA6.out (by simp)⟩
    clear hG HVU HG6 HA6
    obtain⟨x0,x1,x2,x3,x4,x5,x6,x7,x8⟩:=bz HV1.out.1.xb
    obtain⟨k20,k21,k22,k23,k24,k25⟩:=aL HV1.out.2.2
    go_upto_region 27 with fail
    go_cut [201] from 185 to 201 (fun b wc=>b=.bool false∧U1.grownBy wc none)
    case first =>
     have hgq:=nl
     cases sh with
     | true =>
      have hf:x.af=Hp.none:=by
       have z:=HO.out.fin
       rw[if_pos] at z
       ·exact z
       ·have q1:=Hsh.out.symm
        simp only[Bool.and_eq_true,Bool.or_eq_true,decide_eq_true_eq] at q1
        exact q1
      have hq1:=Ch
      rw[hf] at x0 x1 x2 x3 x4 x5
      unfold Hp.none at x0 x1 x2 x3 x4 x5
      simp only at x0 x1 x2 x3 x4 x5
      clear hf
      go_wp2_with fail
      go_meet
      case rel=>exact⟨rfl,aq _ _⟩
     | false =>
      have hf:atN F h x.us x.us.length=x.af:=by
       have z:=HO.out.fin
       rw[if_neg] at z
       ·exact z
       ·intro q2
        have q1:=Hsh.out.symm
        rw[decide_eq_true q2.1,decide_eq_true q2.2.1] at q1
        rcases q2.2.2 with q3 | q3
        ·rw[decide_eq_true q3] at q1;cases q1
        ·rw[decide_eq_true q3,Bool.or_true] at q1;cases q1
      have hq1:=wD x.af
      rw[hf] at k20 k21 k22 k23 k24 k25
      clear hf
      go_wp2_with fail
      go_meet
      case rel=>exact⟨rfl,aq _ _⟩
    case rest =>
    obtain⟨rfl,hG⟩:=hcut
    obtain⟨U2,hU2⟩:∃ U2,U2=wc:=⟨_,rfl⟩
    subst hU2
    clear k20 k21 k22 k23 k24 k25 x0 x1 x2 x3 x4 x5 x6 x7 x8
    have HV2:Hid (OnV w U2 b0 b1 nX (.slice pc cs.length kc) (.slice pm ms.length km) (.slice pt ts.length ct) (.slice pf fs.length cf) (.slice pL L.length cL) (.slice pF F.length cF) (.slice pU x.us.length cU) op ow cs ms ts fs F L h x∧w1.grownBy U2 none):=⟨HV1.out.1.keep hG,aa HV1.out.2.1 hG⟩
    clear hG HV1 Hsh
    have C7:=vi _ ts U2 HV2.out.1.pr.th (by have:=HTs.out.1;omega)
    obtain⟨f0,f1,f2,f3,f4,f5⟩:=fa HV2.out.1.pr.tb
    go_wp2_with fail
    refine C7.mono ?_
    rintro e7 w7 ⟨v7,rfl,o7,g7⟩
    obtain⟨p7,c7,rfl⟩:=ay.Own.form o7
    have HO7:Hid (thR.Own 100 w7 U2.heap.size (.slice p7 ts.length c7) ts∧U2.grownBy w7 none):=⟨o7,g7⟩
    clear C7 o7 g7 f0 f1 f2 f3 f4 f5
    go_wp2_with fail
    go_loopw [25] (fun i wr=>∃ (j:Nat) (Y:List Th),j≤ts.length∧i=.int .i64 (j:Int)∧Hid (MxO hu j ts Y∧thR.Own 100 wr U2.heap.size (.slice p7 ts.length c7) Y∧U2.grownBy wr none)) (fun i _=>ts.length - (intOf i).toNat)
    case atStart=>exact⟨0,ts,Nat.zero_le _,rfl,MxO.start _ _,HO7.out.1,HO7.out.2⟩
    case round =>
     obtain⟨j,Y,hj,rfl,HM⟩:=hrel
     obtain⟨Q,hQ⟩:∃ Q,Q=wr:=⟨_,rfl⟩
     subst hQ
     clear HO7
     by_cases hjl:j<ts.length
     ·have j1:(j:Int)<(ts.length:Int):=Int.ofNat_lt.2 hjl
      have j0:(0:Int)≤(j:Int):=by omega
      have hwj:=aK (k:=j) (by have:=HTs.out.1;omega)
      have HMj:Hid (ts.length - (intOf (.int .i64 ((j:Int)+1))).toNat<ts.length - (intOf (.int .i64 (j:Int))).toNat):=bF hjl
      obtain⟨g,ep,hgb⟩:=Cz HM.out.2.1 (by rw[HM.out.1.len];omega)
      subst ep
      obtain⟨t,ht⟩:∃ t,ts[j]?=some t:=⟨_,List.getElem?_eq_getElem hjl⟩
      have hY:Y[j]?=some t:=by rw[HM.out.1.old j (Nat.le_refl _)];exact ht
      have HT:Hid (ts[j]?=some t∧Y[j]?=some t∧U2.heap.size≤g∧j<Y.length∧j<ts.length):=⟨ht,hY,hgb,by rw[HM.out.1.len];exact hjl,hjl⟩
      clear ht hY hgb hj hjl
      obtain⟨c0,c1,c2,c3,c4,c5,c6,c7',c8,c9,c10⟩:=bc (Bu HM.out.2.1 HT.out.2.1)
      have rf:=qB HM.out.2.1
      have S1:=lF (i:=j) (d:=4) (t:=t) (t':={ t with hurt:=hu }) (v:=.int .i64 hu) HM.out.2.1 (by rw[HM.out.1.len]) (HT.out.2.1) (by decide) rfl
      have S2:=lF (i:=j) (d:=9) (t:={ t with hurt:=hu }) (t':={ t with hurt:=hu,done:=(j:Int) }) (v:=.int .i64 (j:Int)) S1.1 (by rw[List.length_set,HM.out.1.len]) (List.getElem?_set_self HT.out.2.2.2.1) (by decide) rfl
      rw[vI] at S2
      have rf2:=qB S1.1
      obtain⟨-,-,-,-,-,-,-,-,-,b9,-⟩:=bc (Bu S1.1 (List.getElem?_set_self HT.out.2.2.2.1))
      obtain⟨V2,hV2⟩:∃ V2,V2=(Q.setCell ⟨g,j*11+4,none⟩ (.int .i64 hu)).setCell ⟨g,j*11+9,none⟩ (.int .i64 (j:Int)):=⟨_,rfl⟩
      rw[←hV2] at S2
      have HO2:Hid (thR.Own 100 V2 U2.heap.size (.slice (some ⟨g,0,none⟩) ts.length c7) (Y.set j { t with hurt:=hu,done:=(j:Int) })∧U2.grownBy V2 none):=⟨S2.1,by rw[hV2];exact am (am HM.out.2.2 S1.2 (fun y e=>by cases e;exact HT.out.2.2.1)) (aj _ _ _ _) (fun y e=>by cases e;exact HT.out.2.2.1)⟩
      go_upto_region 34 with fail
      rw[←hV2]
      clear hV2 S1 S2 rf2 b9 rf c0 c1 c2 c3 c4 c5 c6 c7' c8 c9 c10
      obtain⟨c0,c1,c2,c3,c4,c5,c6,c7',c8,c9,c10⟩:=bc (Bu HO2.out.1 (List.getElem?_set_self HT.out.2.2.2.1))
      have rf:=qB HO2.out.1
      by_cases hp:t.place=4
      ·have d1:(t.place == 4)=true:=by rw[hp];rfl
       by_cases hst:t.stamp<1099511627776
       ·have d2:decide (t.stamp<1099511627776)=true:=decide_eq_true hst
        have h1:=HTs.out.2.1 t (List.mem_of_getElem? HT.out.1) hp
        have hw1:wrap64 (3*t.stamp)=3*t.stamp:=by unfold wrap64;omega
        have hw2:wrap64 (3*t.stamp+1)=3*t.stamp+1:=by unfold wrap64;omega
        have HE:Hid (({ t with hurt:=hu,done:=(j:Int),stamp:=3*t.stamp+1 }:Th)=nwT hu j t):=(if_pos ⟨hp,hst⟩).symm
        have S3:=lF (i:=j) (d:=3) (t:={ t with hurt:=hu,done:=(j:Int) }) (t':={ t with hurt:=hu,done:=(j:Int),stamp:=3*t.stamp+1 }) (v:=.int .i64 (3*t.stamp+1)) HO2.out.1 (by rw[List.length_set,HM.out.1.len]) (List.getElem?_set_self HT.out.2.2.2.1) (by decide) rfl
        rw[vI] at S3
        obtain⟨V3,hV3⟩:∃ V3,V3=V2.setCell ⟨g,j*11+3,none⟩ (.int .i64 (3*t.stamp+1)):=⟨_,rfl⟩
        rw[←hV3] at S3
        have HO3:Hid (thR.Own 100 V3 U2.heap.size (.slice (some ⟨g,0,none⟩) ts.length c7) (Y.set j { t with hurt:=hu,done:=(j:Int),stamp:=3*t.stamp+1 })∧U2.grownBy V3 none):=⟨S3.1,am HO2.out.2 S3.2 (fun y e=>by cases e;exact HT.out.2.2.1)⟩
        clear S3 hp hst h1
        go_upto_region 32 with fail
        rw[←hV3]
        clear hV3 rf c0 c1 c2 c3 c4 c5 c6 c7' c8 c9 c10 d1 d2 hw1 hw2
        go_wp2_with fail
        go_roundw
        case rel=>exact⟨j+1,_,HT.out.2.2.2.2,by first | rfl | (rw[hwj];rfl) | go_num,HM.out.1.step HT.out.1 HE.out,HO3.out.1,HO3.out.2⟩
        case measure=>first | exact HMj.out | (rw[hwj];exact HMj.out)
       ·have d2:decide (t.stamp<1099511627776)=false:=decide_eq_false hst
        have HE:Hid (({ t with hurt:=hu,done:=(j:Int) }:Th)=nwT hu j t):=(if_neg (fun z=>hst z.2)).symm
        clear hp hst
        go_wp2_with fail
        go_roundw
        case rel=>exact⟨j+1,_,HT.out.2.2.2.2,by first | rfl | (rw[hwj];rfl) | go_num,HM.out.1.step HT.out.1 HE.out,HO2.out.1,HO2.out.2⟩
        case measure=>first | exact HMj.out | (rw[hwj];exact HMj.out)
      ·have d1:(t.place == 4)=false:=by simpa using hp
       have HE:Hid (({ t with hurt:=hu,done:=(j:Int) }:Th)=nwT hu j t):=(if_neg (fun z=>hp z.1)).symm
       clear hp
       go_wp2_with fail
       go_roundw
       case rel=>exact⟨j+1,_,HT.out.2.2.2.2,by first | rfl | (rw[hwj];rfl) | go_num,HM.out.1.step HT.out.1 HE.out,HO2.out.1,HO2.out.2⟩
       case measure=>first | exact HMj.out | (rw[hwj];exact HMj.out)
     ·have j1:¬(j:Int)<(ts.length:Int):=by omega
      have HMx:Hid (MxO hu j ts Y∧ts.length≤j):=⟨HM.out.1,by omega⟩
      have HV4:Hid (OnV w Q b0 b1 nX (.slice pc cs.length kc) (.slice pm ms.length km) (.slice pt ts.length ct) (.slice pf fs.length cf) (.slice pL L.length cL) (.slice pF F.length cF) (.slice pU x.us.length cU) op ow cs ms ts fs F L h x∧w1.grownBy Q none∧thR.At Q (.slice p7 ts.length c7) Y):=⟨HV2.out.1.keep HM.out.2.2,aa HV2.out.2 HM.out.2.2,ay.Own.at HM.out.2.1⟩
      clear hjl hj HM HV2
      have C8:=mD _ _ _ r m cd Y F h Q (HS.out Q _ Y HV4.out.2.1 HMx.out.1.len HV4.out.2.2 HV4.out.1.fe) ⟨_,rfl⟩
      unfold hpv dL at C8
      obtain⟨k10,k11,k12,k13,k14,k15⟩:=aL HV4.out.1.pr.hb
      obtain⟨y,hy⟩:∃ y,y=fk r m cd Y F h:=⟨_,rfl⟩
      obtain⟨q2,hq2⟩:∃ q,q=laE r m cd Y F h:=⟨_,rfl⟩
      have HY:Hid (y=fk r m cd Y F h∧q2=laE r m cd Y F h):=⟨hy,hq2⟩
      rw[←hy,←hq2] at C8
      clear hy hq2
      go_wp2_with fail
      refine C8.mono ?_
      rintro e8 w8 ⟨pY,mY,cY,rfl,oY,g8⟩
      obtain⟨pY',cY',eY⟩:=ay.Own.form oY
      cases eY
      obtain⟨V8,hV8⟩:∃ V8,V8=w8.alloc (.cells #[.int .u8 y.af.vb,.int .i64 y.af.on,.int .i64 y.af.ct,.int .i64 y.af.ho,.bool y.af.vn,.bool y.af.dr,.slice pY y.us.length cY,.int .i64 y.go,.int .i64 y.li] 45):=⟨_,rfl⟩
      have HG8:Hid (Q.grownBy V8 none):=by rw[hV8];exact ak g8 _
      have HB8:Hid (SwB V8 w8.heap.size y.af (.slice pY y.us.length cY) y.go y.li∧sdR.At V8 (.slice pY y.us.length cY) y.us∧OnV w V8 b0 b1 nX (.slice pc cs.length kc) (.slice pm ms.length km) (.slice pt ts.length ct) (.slice pf fs.length cf) (.slice pL L.length cL) (.slice pF F.length cF) (.slice pU x.us.length cU) op ow cs ms ts fs F L h x):=⟨by rw[hV8];exact ai _ _ _,(ay.Own.at oY).keep (by rw[hV8];exact World.grownBy_alloc _ _ none),HV4.out.1.keep HG8.out⟩
      clear C8 oY g8 HV4 HG8 k10 k11 k12 k13 k14 k15
      go_upto_region 37 with fail
      rw[←hV8]
      obtain⟨nY,hnY⟩:∃ n,n=w8.heap.size:=⟨_,rfl⟩
      rw[←hnY] at HB8 ⊢
      clear hV8 hnY
      go_wp2_with fail
      go_loopw [27] (fun i wr=>∃ (n:Nat),n≤ts.length∧i=.int .i64 (n:Int)∧Hid (V8.grownBy wr none∧∀ t∈ts.take n,t.stamp<1099511627776)) (fun i _=>ts.length - (intOf i).toNat)
      case atStart=>exact⟨0,Nat.zero_le _,rfl,aq _ _,fun t ht=>by simp at ht⟩
      case round =>
       obtain⟨n,hn,rfl,HN⟩:=hrel
       obtain⟨Z,hZ⟩:∃ Z,Z=wr:=⟨_,rfl⟩
       subst hZ
       obtain⟨f0,f1,f2,f3,f4,f5⟩:=fa (ae HN.out.1 HB8.out.2.2.pr.tb (by simp))
       by_cases hnl:n<ts.length
       ·have n1:(n:Int)<(ts.length:Int):=Int.ofNat_lt.2 hnl
        have n0:(0:Int)≤(n:Int):=by omega
        have hwn:=aK (k:=n) (by have:=HTs.out.1;omega)
        have HMn:Hid (ts.length - (intOf (.int .i64 ((n:Int)+1))).toNat<ts.length - (intOf (.int .i64 (n:Int))).toNat):=bF hnl
        obtain⟨gT,oT,cT,eT,rT⟩:=bG (HB8.out.2.2.pr.th.keep HN.out.1) hnl
        injection eT with eT eT2 eT3
        clear eT2 eT3
        subst eT
        obtain⟨t,ht⟩:∃ t,ts[n]?=some t:=⟨_,List.getElem?_eq_getElem hnl⟩
        rw[show ts[n]=t from (List.getElem?_eq_some_iff.1 ht).2] at rT
        obtain⟨-,-,-,c3,-⟩:=bc rT
        have Hnl:Hid (n<ts.length∧ts[n]?=some t):=⟨hnl,ht⟩
        clear ht rT hn hnl
        by_cases hst:1099511627776≤t.stamp
        ·have d1:decide (1099511627776≤t.stamp)=true:=decide_eq_true hst
         have d2:decide (t.stamp<1099511627776)=false:=decide_eq_false (by omega)
         have C9:=iG Z
         clear hst
         go_wp2_with fail
         refine C9.mono ?_
         rintro e9 w9 ⟨rfl,g9⟩
         go_wp2_with fail
         go_ret
         exact⟨rfl,aa (aa HB8.out.2.2.pr.gr HN.out.1) g9⟩
        ·have d1:decide (1099511627776≤t.stamp)=false:=decide_eq_false hst
         have d2:decide (t.stamp<1099511627776)=true:=decide_eq_true (by omega)
         have HN2:Hid (∀ u∈ts.take (n+1),u.stamp<1099511627776):=fun u hu2=>by
          rw[List.take_add_one,Hnl.out.2,List.mem_append] at hu2
          rcases hu2 with z | z
          ·exact HN.out.2 u z
          ·simp at z;rw[z];omega
         clear hst
         go_wp2_with fail
         go_roundw
         case rel=>exact⟨n+1,Hnl.out.1,by first | rfl | (rw[hwn];rfl) | go_num,HN.out.1,HN2.out⟩
         case measure=>first | exact HMn.out | (rw[hwn];exact HMn.out)
       ·have n1:¬(n:Int)<(ts.length:Int):=by omega
        have HOt:Ots ts Y:=HMx.out.1.ots HMx.out.2 HTs.out.2.1 (by have z:=HN.out.2;rwa [List.take_of_length_le (by omega)] at z)
        have hyx:y=x:=by rw[HY.out.1,HX.out.1];exact Cq HOt h
        have hq2:q2=0:=by rw[HY.out.2,DS HOt];exact HTs.out.2.2
        subst hyx
        have HB9:Hid (SwB Z nX y.af (.slice pU y.us.length cU) y.go y.li∧SwB Z nY y.af (.slice pY y.us.length cY) y.go y.li∧w.grownBy Z none):=⟨ae HN.out.1 HB8.out.2.2.xb (by simp),ae HN.out.1 HB8.out.1 (by simp),aa HB8.out.2.2.pr.gr HN.out.1⟩
        have C9:=zx y.af (.slice pU y.us.length cU) (.slice pY y.us.length cY) y.us y.go y.li Z (HB8.out.2.2.us.keep HN.out.1) (HB8.out.2.1.keep HN.out.1) (by have:=HO.out.few.2;omega)
        unfold dL at C9
        have e1:(q2 == 0)=true:=by rw[hq2];rfl
        obtain⟨x0,x1,x2,x3,x4,x5,x6,x7,x8⟩:=bz HB9.out.1
        obtain⟨y0,y1,y2,y3,y4,y5,y6,y7,y8⟩:=bz HB9.out.2.1
        clear hq2 HOt hn hnl
        go_wp2_with fail
        refine C9.mono ?_
        rintro e9 w9 ⟨rfl,g9⟩
        have C10:=iG w9
        have HG9:Hid (w.grownBy w9 none):=aa HB9.out.2.2 g9
        clear C9 g9 x0 x1 x2 x3 x4 x5 x6 x7 x8 y0 y1 y2 y3 y4 y5 y6 y7 y8
        go_wp2_with fail
        refine C10.mono ?_
        rintro e10 w10 ⟨rfl,g10⟩
        go_wp2_with fail
        go_ret
        exact⟨rfl,aa HG9.out g10⟩
end Go.Proofs.YthfjgpjcepmnmaaGreat
