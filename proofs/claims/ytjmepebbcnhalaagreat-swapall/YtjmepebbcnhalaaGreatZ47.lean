import Derived.Test.YtjmepebbcnhalaaGreatZ46
namespace Go.Proofs.YtjmepebbcnhalaaGreat
open Tryz
set_option maxRecDepth 100000
set_option maxHeartbeats 4000000
open Go.RowKit Go.Shelf
variable {ps:List Pt} {q:Pt} {nu:Int} {j k m b:Nat} {R:List Rw} {F fs:List Fe} {f:Fe} {ok:Nat→Prop} {w w':World} {es gs:List Ent} {p:Pl} {vt vf v:Value} {ts:List Th} {t:Th}
def swJ (nu:Int) (ps:List Pt) (j:Nat):List Sd:=(plF (ps.take j) 0 6).map (mkS nu ps)
theorem CI (nu:Int) (ps:List Pt):swJ nu ps 0=[]:=rfl
theorem Ez (nu:Int) (ps:List Pt):swJ nu ps ps.length=cZ nu ps:=by unfold swJ;rw[Qas];rfl
theorem yY {j:Nat} (h:ps[j]?=some q):plF (ps.take (j+1)) 0 6=if q.wn=6 then plF (ps.take j) 0 6++[(j:Int)] else plF (ps.take j) 0 6:=by
 have hj:j<ps.length:=(Qh h).1;rw[Qat,h,Option.toList_some,pQ,Qam,Qbv (Qaf hj),Qa8]
theorem Ev {j:Nat} (h:ps[j]?=some q) (h6:q.wn=6):swJ nu ps (j+1)=swJ nu ps j++[⟨nu,(j:Int),q⟩]:=by
 unfold swJ;rw[yY h,if_pos h6,Qbb,List.map_singleton];unfold mkS;rw[Qc3,Qa2,h];rfl
theorem Gi (h:ps[j]?=some q) (h6:¬q.wn=6):swJ nu ps (j+1)=swJ nu ps j:=by
 unfold swJ;rw[yY h,if_neg h6]
theorem FN (nu:Int) (ps:List Pt) (j:Nat):(swJ nu ps j).length≤j:=by
 unfold swJ;rw[Qa9];refine Ql (mZ _ _ _) ?_;rw[Qam];exact Nat.min_le_left _ _
def swM (mb:Bool) (A:List Sd) (nu:Int) (ps:List Pt) (j:Nat):List Sd:=if mb then A else A++swJ nu ps j
theorem tS (mb:Bool) (A:List Sd) (nu:Int) (ps:List Pt):swM mb A nu ps 0=A:=by unfold swM;cases mb <;> simp[CI]
theorem GT {mb:Bool} {A:List Sd} (h:ps[j]?=some q) (h6:¬q.wn=6):swM mb A nu ps (j+1)=swM mb A nu ps j:=by unfold swM;rw[Gi h h6]
theorem EB {A:List Sd} {j:Nat} (h:ps[j]?=some q) (h6:q.wn=6):swM false A nu ps (j+1)=swM false A nu ps j++[⟨nu,(j:Int),q⟩]:=by
 show A++swJ nu ps (j+1)=A++swJ nu ps j++[_]
 rw[Ev h h6,Qb8]
theorem FJ (mb:Bool) (A:List Sd) (nu:Int) (ps:List Pt) (j:Nat):(swM mb A nu ps j).length≤A.length+j:=by
 unfold swM;cases mb
 ·simp only[Bool.false_eq_true,if_false];rw[Qa];have:=FN nu ps j;omega
 ·simp
theorem FK {b:Nat} (hk:k<R.length) (hn:(R.getD k Rw.none).nu=(b:Int)+1) (hf:F[b]?=some f):swK R F (k+1)=swM (gH f.tr 6) (swK R F k) ((b:Int)+1) (R.getD k Rw.none).ps (R.getD k Rw.none).ps.length:=by
 rw[oe hk,nL hn hf];unfold swM;cases gH f.tr 6
 ·simp only[Bool.false_eq_true,if_false];rw[Ez]
 ·simp
theorem CR {n:Nat} (h:m≤n) (hn:n≤68):m+1≤maxLen∧(m+1)*56≤140737488355328:=⟨by unfold maxLen;omega,by omega⟩
theorem EI (Z:World) (s:Sd):Src (Z.alloc (.cells (sdc s).toArray 64)) (.slice (some ⟨Z.heap.size,0,none⟩) 1 1) 1 10 (sdc s):=jx (cs:=(sdc s).toArray) (aj Z _ _) rfl 1
theorem xt (ok:Nat→Prop) (r:Nat) (v:Value) (p0:Pl) (gs:List Ent) (vt vf:Value) (ts:List Th) (F:List Fe) (R:List Rw) (w:World) (I:RSw ok w r v p0 gs vt vf ts F R) (hW:Calls prog 100 #[.pointer (some ⟨r,0,none⟩),vt,vf] w fun e w'=>e=.returned (.int .i64 0)∧w.grownBy w' none):Calls prog 45 #[.pointer (some ⟨r,0,none⟩),vt,vf] w fun e w'=>∃ v,e=.returned (.tuple #[v,.int .i64 0])∧aV w' w.heap.size v (swL R F)∧w.grownBy w' none:=by
 obtain⟨i0,hi,hz0,hz1,hz2⟩:=info_parts linfoD;obtain⟨pt,ct,rfl⟩:=I.th.form;obtain⟨pf,cf,rfl⟩:=I.fe.form;have H4:QH (∀ c,(atC p0 gs c).2.length≤4):=I.rd.four;have HEl:QH (∀ k,k≤R.length→(swK R F k).length≤4*k):=nf (I.tab.ps4 I.rd.four);have HA0:QH (RSw ok w r v p0 gs (.slice pt ts.length ct) (.slice pf F.length cf) ts F R):=I;clear I;go_enter func45,ntmps45;go_wp2_with fail;refine hW.mono ?_;rintro e1 w1 ⟨rfl,g1⟩;have HG1:QH (w.grownBy w1 none):=g1;have HA:QH (RSw ok w1 r v p0 gs (.slice pt ts.length ct) (.slice pf F.length cf) ts F R):=HA0.o.keep g1;clear hW g1 HA0;go_wp2_with fail;go_loopg [9,10,11,12,13,14,15] R.length (fun gk v y _ _ _ _ _ wr=>∃ (k m:Nat) (p:Option Addr) (c:Nat),k+gk=R.length∧v=.slice p m c∧y=.int .i64 (iK R k)∧QH (m=(swK R F k).length∧aV wr w1.heap.size (.slice p m c) (swK R F k)∧w1.grownBy wr none))
 case atStart=>exact⟨0,0,none,0,Qa8 _,rfl,rfl,rfl,aB.Own.nil _ _ _ _,aw _ _⟩
 case round =>
  obtain⟨k,m0,p,c,hgk,rfl,rfl,HK⟩:=hrel;obtain⟨U,hU⟩:=Qe (wr);subst hU;have Hk:QH (k≤R.length∧k+gk=R.length):=⟨by omega,hgk⟩
  obtain⟨la,hla⟩:=Qe (iK R k);have Hla:QH (la=iK R k):=hla;rw[←hla];clear hgk hla;go_upto_block 2 with fail;go_cut [11,12] from 23 to 61 (fun y _ wc=>∃ best:Int,y=.int .i64 best∧BsU ts la ts.length best∧U.grownBy wc none)
  case first =>
   go_wp2_with fail;go_loopw [11,12] (fun y z wr=>∃ (i:Nat) (best:Int),i≤ts.length∧z=.int .i64 (i:Int)∧y=.int .i64 best∧QH (BsU ts la i best∧U.grownBy wr none)) (fun _ z _=>ts.length - (intOf z).toNat)
   case atStart=>exact⟨0,-1,Q0 _,rfl,rfl,BsU.start _ _,aw _ _⟩
   case round =>
    obtain⟨i,best,hi',rfl,rfl,HB⟩:=hrel;obtain⟨Q,hQ⟩:=Qe (wr);subst hQ;by_cases hi2:i<ts.length
    ·have i1:(i:Int)<(ts.length:Int):=Int.ofNat_lt.2 hi2;have hwk:=aR (k:=i) (Ql (Qaf hi2) (Ql HA.o.few (by decide)));have HM:QH (ts.length - (intOf (.int .i64 ((i:Int)+1))).toNat<ts.length - (intOf (.int .i64 (i:Int))).toNat):=cj hi2;obtain⟨gT,oT,cT,eT,-⟩:=bz HA.o.th hi2;injection eT with eT eT2 eT3;clear eT2 eT3;subst eT;obtain⟨s,hs⟩:∃ s,ts[i]?=some s:=⟨_,Qg hi2⟩
     have gQ:=aa HK.o.2.2 HB.o.2;obtain⟨-,-,s2,s3,-⟩:=aZ (gx (HA.o.th.keep gQ) hs);have Hs:QH (ts[i]?=some s∧i<ts.length):=⟨hs,hi2⟩
     clear hi' hi2 hs;by_cases h4:s.place=4
     ·have e1:(s.place == 4)=true:=(by rw[h4];rfl);by_cases h5:la<s.stamp
      ·have e2:decide (la<s.stamp)=true:=Qy h5
       rcases id HB.o.1 with ⟨eb,-⟩ | ⟨b,t,eb,hbi,ht,-⟩
       ·subst eb;have HN:QH (BsU ts la (i+1) (i:Int)):=HB.o.1.first Hs.o.1 h4 h5;rw[h4] at s2;clear h4 h5;go_upto_region 10 with fail;go_quiet (fail);clear s2 s3 e1 e2;go_wp2_with fail;go_roundw
        case rel=>exact⟨i+1,(i:Int),Hs.o.2,by first | rfl | (rw[hwk];rfl) | go_num,rfl,HN.o,aa HB.o.2 (aA _ _ _)⟩
        case measure=>first | exact HM.o | (rw[hwk];exact HM.o)
       ·subst eb;obtain⟨-,-,-,t3,-⟩:=aZ (gx (HA.o.th.keep gQ) ht);have b0:¬((b:Int)<0):=(by omega);have b1:(b:Int)<(ts.length:Int):=(by have:=Hs.o.2;omega);have b2:(0:Int)≤(b:Int):=(by omega);by_cases h6:s.stamp<t.stamp
        ·have e3:decide (s.stamp<t.stamp)=true:=Qy h6;have HN:QH (BsU ts la (i+1) (i:Int)):=HB.o.1.less ht Hs.o.1 h4 h5 h6;rw[h4] at s2;clear h4 h5 h6 hbi ht;go_upto_region 10 with fail;go_quiet (fail);clear s2 s3 t3 e1 e2 e3;go_wp2_with fail;go_roundw
         case rel=>exact⟨i+1,(i:Int),Hs.o.2,by first | rfl | (rw[hwk];rfl) | go_num,rfl,HN.o,aa HB.o.2 (aA _ _ _)⟩
         case measure=>first | exact HM.o | (rw[hwk];exact HM.o)
        ·have e3:decide (s.stamp<t.stamp)=false:=Qx h6;have HN:QH (BsU ts la (i+1) (b:Int)):=HB.o.1.more ht Hs.o.1 h6;rw[h4] at s2;clear h4 h5 h6 hbi ht;go_upto_region 10 with fail;go_quiet (fail);clear s2 s3 t3 e1 e2 e3;go_wp2_with fail;go_roundw
         case rel=>exact⟨i+1,(b:Int),Hs.o.2,by first | rfl | (rw[hwk];rfl) | go_num,rfl,HN.o,aa HB.o.2 (aA _ _ _)⟩
         case measure=>first | exact HM.o | (rw[hwk];exact HM.o)
      ·have e2:decide (la<s.stamp)=false:=Qx h5;have HN:QH (BsU ts la (i+1) best):=HB.o.1.skip Hs.o.1 (fun q=>h5 q.2);rw[h4] at s2;clear h4 h5;go_upto_region 10 with fail;go_quiet (fail);clear s2 s3 e1 e2;go_wp2_with fail;go_roundw
       case rel=>exact⟨i+1,best,Hs.o.2,by first | rfl | (rw[hwk];rfl) | go_num,rfl,HN.o,aa HB.o.2 (aA _ _ _)⟩
       case measure=>first | exact HM.o | (rw[hwk];exact HM.o)
     ·have e1:(s.place == 4)=false:=(by simpa using h4);have HN:QH (BsU ts la (i+1) best):=HB.o.1.skip Hs.o.1 (fun q=>h4 q.1);clear h4;go_upto_region 10 with fail;go_quiet (fail);clear s2 s3 e1;go_wp2_with fail;go_roundw
      case rel=>exact⟨i+1,best,Hs.o.2,by first | rfl | (rw[hwk];rfl) | go_num,rfl,HN.o,aa HB.o.2 (aA _ _ _)⟩
      case measure=>first | exact HM.o | (rw[hwk];exact HM.o)
    ·obtain rfl:i=ts.length:=Qag hi' (Qac hi2);have i1:¬(ts.length:Int)<(ts.length:Int):=Qb3 _;have HE:QH (BsU ts la ts.length best∧U.grownBy Q none):=HB.o;clear hi' hi2 HB;go_wp2_with fail;go_meet
     case rel=>exact⟨best,rfl,HE.o.1,HE.o.2⟩
  case rest =>
   obtain⟨best,rfl,hB,hG⟩:=hcut;obtain⟨X,hX⟩:=Qe (wc);subst hX;have HX:QH (aV X w1.heap.size (.slice p m0 c) (swK R F k)∧w1.grownBy X none∧m0=(swK R F k).length):=⟨aC HK.o.2.1 hG,aa HK.o.2.2 hG,HK.o.1⟩
   rw[Hla.o] at hB;have he:=BsU.end HA.o.tab Hk.o.1 hB;clear hB hG HK
   rcases he with ⟨ek,rfl⟩ | ⟨hkl,b,t,rfl,ht,hst,hnu⟩
   ·have HF:QH (aV X w.heap.size (.slice p m0 c) (swL R F)∧w.grownBy X none):=⟨bj (by have h9:=HX.o.1;rw[ek,sD] at h9;exact h9) HG1.o.size,aa HG1.o HX.o.2.1⟩
    clear ek HX;go_wp2_with fail;go_ret2;exact⟨_,rfl,HF.o.1,HF.o.2⟩
   ·have hbl:b<ts.length:=(Qh ht).1;have hbf:b<F.length:=(by rw[←HA.o.tab.len];exact hbl);obtain⟨f,hf⟩:∃ f,F[b]?=some f:=⟨_,Qg hbf⟩
    have b0:¬((b:Int)<0):=(by omega);have b1:(b:Int)<(ts.length:Int):=(by omega);have b2:(0:Int)≤(b:Int):=(by omega);have b3:(b:Int)<(F.length:Int):=(by omega);have hwb:=aR (k:=b) (Ql (Qaf hbl) (Ql HA.o.few (by decide)));obtain⟨gT,oT,cT,eT,-⟩:=bz HA.o.th hbl;injection eT with eT eT2 eT3;clear eT2 eT3;subst eT;obtain⟨gF,oF,cF,eF,-⟩:=dh HA.o.fe hbf;injection eF with eF eF2 eF3;clear eF2 eF3;subst eF;obtain⟨j0,t',ht',-,er⟩:=HA.o.tab.row (show R.getD k Rw.none∈R by rw[aG hkl];exact Qab _);have hjb:j0=b:=(by rw[er] at hnu;have z:(j0:Int)+1=(b:Int)+1:=hnu;omega);subst hjb;rw[ht] at ht';obtain rfl:t=t':=Qa1 ht';have HRw:QH (k<R.length∧ts[j0]?=some t∧F[j0]?=some f∧t.stamp=iK R (k+1)∧swK R F (k+1)=swM (gH f.tr 6) (swK R F k) ((j0:Int)+1) (atC p0 gs t.card).2 (atC p0 gs t.card).2.length):=⟨hkl,ht,hf,by rw[qb];exact hst,by have z:=FK hkl hnu hf;rw[er] at z;exact z⟩
    have CC:=jV ok r v p0 gs t X (HA.o.rd.keep HX.o.2.1);obtain⟨h,hh⟩:=Qe ((atC p0 gs t.card).1);obtain⟨ps,hps⟩:=Qe ((atC p0 gs t.card).2);obtain⟨x,hx⟩:=Qe (atX p0 gs t.card);obtain⟨mb,hmb⟩:=Qe (gH f.tr 6);obtain⟨D,hD⟩:=Qe (swK R F k);have HD:QH (D.length≤64∧ps.length≤4):=⟨by rw[hD];have:=HEl.o k Hk.o.1;have:=HA.o.tab.few;have:=Hk.o.1;omega,by rw[hps];exact H4.o _⟩
    have Hmb:QH (mb=gH f.tr 6):=hmb;rw[←hh,←hps,←hx] at CC;rw[←hps,←hD,←hmb] at HRw;rw[←hD] at HX;unfold dw cv thv at CC;obtain⟨t0,t1,t2,t3,t4,t5,t6,t7,t8,t9,t10⟩:=aZ (gx (HA.o.th.keep HX.o.2.1) ht);clear hkl ht hst hnu hbl hbf hf ht' er hh hps hx hmb hD;go_wp2_with fail;refine CC.mono ?_;rintro e3 w3 ⟨u,rfl,ou,g3⟩;obtain⟨pu,cu,rfl⟩:∃ p c,u=.slice p ps.length c:=(by obtain⟨p,c,e,_⟩:=bZ ou;exact⟨p,c,e⟩);obtain⟨Z,hZ⟩:=Qe (w3.alloc (.cells #[.string h.nm,.int .u8 h.su,.int .u8 h.kd,.int .i64 h.co,.int .i64 h.po,.int .i64 h.he,.int .u16 h.tr,.bool h.tk,.slice pu ps.length cu] 111))
    have HZ:QH (CdK Z w3.heap.size h (.slice pu ps.length cu)∧bJ Z X.heap.size (.slice pu ps.length cu) ps∧X.grownBy Z none):=by
     have g:w3.grownBy Z none:=(by rw[hZ];exact QG);exact⟨by rw[hZ];exact aj _ _ _,aC ou g,aa g3 g⟩
    clear CC ou g3 t0 t1 t2 t3 t4 t5 t6 t7 t8 t9 t10;go_upto_region 16 with fail;rw[←hZ];obtain⟨nc,hnc⟩:=Qe (w3.heap.size);rw[←hnc] at HZ ⊢;clear hZ hnc;go_wp2_with fail;go_loopw [9,15] (fun v y wr=>∃ (q m:Nat) (pq:Option Addr) (cq:Nat),q≤ps.length∧y=.int .i64 (q:Int)∧v=.slice pq m cq∧QH (m=(swM mb D ((j0:Int)+1) ps q).length∧aV wr w1.heap.size (.slice pq m cq) (swM mb D ((j0:Int)+1) ps q)∧w1.grownBy wr none∧CdK wr nc h (.slice pu ps.length cu)∧bJ wr X.heap.size (.slice pu ps.length cu) ps)) (fun _ y _=>ps.length - (intOf y).toNat)
    case atStart=>exact⟨0,m0,p,c,Q0 _,rfl,rfl,by rw[tS];exact HX.o.2.2,by rw[tS];exact aB.Own.grow HX.o.1 HZ.o.2.2,aa HX.o.2.1 HZ.o.2.2,HZ.o.1,HZ.o.2.1⟩
    case round =>
     obtain⟨q,m,pq,cq,hq',rfl,rfl,HY⟩:=hrel;obtain⟨Y,hY⟩:=Qe (wr);subst hY;have k8:Y.cell? ⟨nc,8,none⟩=some (.slice pu ps.length cu):=(ae HY.o.2.2.2.1 8).trans rfl;by_cases hq:q<ps.length
     ·skip
      have hqq:(q:Int)<(ps.length:Int):=Int.ofNat_lt.2 hq;have q0:(0:Int)≤(q:Int):=(by omega);have hwm:=aR (k:=q) (Ql (Qaf hq) (Ql HD.o.2 (by decide)));have HMk:QH (ps.length - (intOf (.int .i64 ((q:Int)+1))).toNat<ps.length - (intOf (.int .i64 (q:Int))).toNat):=cj hq;obtain⟨gp,op,cp,ep,hpt⟩:=(bJ.at HY.o.2.2.2.2).part (Qbg (Q0 _) hq);obtain⟨z,hz⟩:∃ z,ps[q]?=some z:=⟨_,Qg hq⟩
      obtain⟨d0,d1,d2,d3,d4,d5,d6,d7⟩:=hpt q z hz;injection ep with ep ep2 ep3;clear ep2 ep3;subst ep;have Hq:QH (q<ps.length∧ps[q]?=some z):=⟨hq,hz⟩
      clear hq' hq hz hpt;by_cases w6:z.wn=6
      ·have e6:(z.wn == 6)=true:=(by rw[w6];rfl);obtain⟨-,-,f2,-⟩:=bP (ed (HA.o.fe.keep HY.o.2.2.1) HRw.o.2.2.1);have CH:∀ W,Calls prog 109 #[.int .u16 f.tr,.int .u8 6] W fun e w'=>e=.returned (.bool mb)∧w'=W:=fun W=>by rw[Hmb.o];exact jy f.tr 6 W
       have H6:QH (z.wn=6):=w6;clear w6;go_wp2_with fail;refine(CH Y).mono ?_;rintro e4 w4 ⟨rfl,h4⟩;obtain rfl:Y=w4:=h4.symm;clear CH f2;cases mb with
       | true =>
        clear d0 d1 d2 d3 d4 d5 d6 d7;go_wp2_with fail;go_roundw
        case rel=>exact⟨q+1,m,pq,cq,Hq.o.1,by first | rfl | (rw[hwm];rfl) | go_num,rfl,HY.o⟩
        case measure=>first | exact HMk.o | (rw[hwm];exact HMk.o)
       | false =>
        have HN:QH (swM false D ((j0:Int)+1) ps (q+1)=swM false D ((j0:Int)+1) ps q++[⟨(j0:Int)+1,(q:Int),z⟩]):=EB Hq.o.2 H6.o;have HLn:QH (m+1≤maxLen∧(m+1)*56≤140737488355328):=CR (show m≤D.length+q by rw[HY.o.1];exact FJ _ _ _ _ _) (by have:=HD.o;have:=Hq.o.1;omega);obtain⟨E,hE⟩:=Qe (swM false D ((j0:Int)+1) ps q);have HE:QH (E=swM false D ((j0:Int)+1) ps q∧m=E.length):=⟨hE,by rw[hE];exact HY.o.1⟩
        have HOa:QH (Y.ownsRow w1.heap.size 64 10 (.slice pq m cq) m (sdR.cs E)):=by
         have h9:=HY.o.2.1;unfold aV aB.Own at h9;rw[←hE,←HE.o.2] at h9;exact h9
        clear hE;obtain⟨Q,hQ⟩:=Qe (Y.alloc (.cells (sdc (⟨(j0:Int)+1,(q:Int),z⟩:Sd)).toArray 64));have HGQ:QH (Y.grownBy Q none):=(by rw[hQ];exact QG);have HSr:QH (Src Q (.slice (some ⟨Y.heap.size,0,none⟩) 1 1) 1 10 (sdc (⟨(j0:Int)+1,(q:Int),z⟩:Sd))):=(by rw[hQ];exact EI Y _);have HOb:QH (Q.ownsRow w1.heap.size 64 10 (.slice pq m cq) m (sdR.cs E)):=aC HOa.o HGQ.o;have HL8:QH (w1.heap.size≤Q.heap.size):=Ql HY.o.2.2.1.size HGQ.o.size;have hneP:some gp≠(Value.slice pq m cq).ownBlock:=(by obtain⟨cs9,fr9,hb9⟩:=iy HY.o.2.2.2.2 gp rfl;exact bD HOa.o hb9 (by decide));have hneC:some nc≠(Value.slice pq m cq).ownBlock:=bD HOa.o HY.o.2.2.2.1 (by decide);have HNe:QH (some gp≠(Value.slice pq m cq).ownBlock∧some nc≠(Value.slice pq m cq).ownBlock):=⟨hneP,hneC⟩
        clear hneP hneC;unfold sdc at hQ;go_upto_region 18 with (at_builtin;(try rw[←hQ]);refine br (by rfl) (.tmp 102) (.tmp 112) 30 rfl w1.heap.size 64 i0 _ 10 56 underlying30 hi hz0 hz1 hz2 rfl (by decide) (.slice pq m cq) m (sdR.cs E) rfl HOb.o (.slice (some ⟨Y.heap.size,0,none⟩) 1 1) 1 (sdc (⟨(j0:Int)+1,(q:Int),z⟩:Sd)) rfl HSr.o (fx _) HLn.o.1 HLn.o.2 HL8.o ?_;intro v9 w9 o9 g9 _;have HO9:QH _:=o9;have HG9:QH (Q.grownBy w9 (Value.slice pq m cq).ownBlock):=g9;clear o9 g9)
        have HF:QH (m+1=(swM false D ((j0:Int)+1) ps (q+1)).length∧aV w9 w1.heap.size v9 (swM false D ((j0:Int)+1) ps (q+1))∧w1.grownBy w9 none∧CdK w9 nc h (.slice (some ⟨gp,op,none⟩) ps.length cu)∧bJ w9 X.heap.size (.slice (some ⟨gp,op,none⟩) ps.length cu) ps):=by
         rw[HN.o,←HE.o.1];refine⟨by rw[Qa,←HE.o.2];rfl,aB.more HO9.o HE.o.2,ak (aa HY.o.2.2.1 HGQ.o) HG9.o (fun y e=>(Qa5 HOb.o y e).1),?_,?_⟩
         ·exact ag HG9.o (ag HGQ.o HY.o.2.2.2.1 (by simp)) HNe.o.2
         ·exact Qav (aC HY.o.2.2.2.2 HGQ.o) HG9.o (Or.inr (fun z=>HNe.o.1 (by rw[←z];rfl)))
        obtain⟨pv,kv,ev9,-⟩:=bZ HO9.o;subst ev9;clear d0 d1 d2 d3 d4 d5 d6 d7 hQ;go_wp2_with fail;go_roundw
        case rel=>exact⟨q+1,m+1,pv,kv,Hq.o.1,by first | rfl | (rw[hwm];rfl) | go_num,rfl,HF.o⟩
        case measure=>first | exact HMk.o | (rw[hwm];exact HMk.o)
      ·have e6:(z.wn == 6)=false:=(by simpa using w6);have HN:QH (swM mb D ((j0:Int)+1) ps (q+1)=swM mb D ((j0:Int)+1) ps q):=GT Hq.o.2 w6;clear w6;go_wp2_with fail;go_roundw
       case rel=>exact⟨q+1,m,pq,cq,Hq.o.1,by first | rfl | (rw[hwm];rfl) | go_num,rfl,by rw[HN.o];exact HY.o⟩
       case measure=>first | exact HMk.o | (rw[hwm];exact HMk.o)
     ·obtain rfl:q=ps.length:=Qag hq' (Qac hq);have k1:¬(ps.length:Int)<(ps.length:Int):=Qb3 _;clear hq' hq;go_wp2_with fail;go_roundg (R.length - (k+1))
      case measure=>have:=HRw.o.1;have:=Hk.o.2;omega
      case rel=>exact⟨k+1,m,pq,cq,by have:=HRw.o.1;omega,rfl,by rw[HRw.o.2.2.2.1],by rw[HRw.o.2.2.2.2];exact HY.o.1,by rw[HRw.o.2.2.2.2];exact HY.o.2.1,HY.o.2.2.1⟩
theorem Bm (h:chk q=0) (hw:q.wn=6):16≤q.vb∧q.vb≤19∧(q.vb=16∨q.vb=19→1≤q.ct∧q.ct≤99):=by
 unfold chk at h;split at h
 ·omega
 ·split at h
  ·omega
  ·rename_i h1 h2;split at h
   ·omega
   ·split at h
    ·omega
    ·rename_i h3 h4
     have e1:cls q.vb=3:=by
      rw[hw] at h2;by_cases c:cls q.vb=wnt 6
      ·rw[c];rfl
      ·exact absurd (Or.inl c) h2
     have e2:16≤q.vb∧q.vb≤19:=by
      unfold cls at e1
      repeat' split at e1
      all_goals omega
     refine⟨e2.1,e2.2,fun hv=>?_⟩
     have e3:eI q.vb q.ct=true:=by
      cases hc:eI q.vb q.ct
      ·exact absurd (Or.inl hc) h4
      ·rfl
     unfold eI at e3
     rcases hv with hv | hv <;> rw[hv] at e3 <;> by_cases h0:q.ct=0
     ·rw[if_pos h0] at e3;exact absurd e3 (by decide)
     ·rw[if_neg h0,Qae,decide_eq_true_eq,decide_eq_true_eq] at e3;exact e3
     ·rw[if_pos h0] at e3;exact absurd e3 (by decide)
     ·rw[if_neg h0,Qae,decide_eq_true_eq,decide_eq_true_eq] at e3;exact e3
theorem GV {c:Cd} (h:gi c=0):eH c.kd c.ps=0:=by
 unfold gi at h
 repeat' split at h
 all_goals first | omega | exact h
theorem qX (B:eD ok w b es p):kp (atC p es):=fun c q hq hw=>by
 unfold atC at hq;split at hq
 ·split at hq
  ·rename_i e he;exact Bm (ls _ _ (GV (B.may e (Qm he))) q hq) hw
  ·simp at hq
 ·simp at hq
theorem zB:kp (fun _=>(Hd.none,[])):=fun _ q hq=>by simp at hq
theorem SIn.of' (B:eD ok w b es p) (T:thR.At w vt ts) (F:feR.At w vf fs):SIn w (.pointer (some ⟨b,0,none⟩)) vt vf (aX p ts.length) (es.length:Int) (atC p es) ts fs:=⟨LIn.of' B T F,fun hr X t g h1 h2=>by
 have hs:p.shut=true:=by
  unfold aX at hr
  repeat' split at hr
  all_goals first | assumption | omega
 have h:=oj ok b es p t X (B.keep g)
 rwa [show atX p es t.card=0 from if_pos ⟨hs,h1,h2⟩] at h,qX B⟩
theorem SIn.of (B:eD ok w b es p) (T:thR.At w vt ts) (F:feR.At w vf fs) (_:fs.length≤4096):SIn w (.pointer (some ⟨b,0,none⟩)) vt vf (aX p ts.length) (es.length:Int) (atC p es) ts fs:=SIn.of' B T F
theorem SIn.no (B:pE w v) (T:thR.At w vt ts) (F:feR.At w vf fs):SIn w v vt vf 1 0 (fun _=>(Hd.none,[])) ts fs:=⟨LIn.no B T F,fun h=>by omega,zB⟩

theorem GL (x y:Hp) (w:World):(binOp .eql 87 (.agg (hpa x)) (.agg (hpa y))).run prog w=.ok (.bool (decide (x=y))) w:=by
 rw[run_eql_struct,nT];rfl
theorem FC (x:Hp) (w:World):(binOp .eql 87 (.agg #[.int .u8 x.vb,.int .i64 x.on,.int .i64 x.ct,.int .i64 x.ho,.bool x.vn,.bool x.dr]) (.agg #[.int .u8 x.vb,.int .i64 x.on,.int .i64 x.ct,.int .i64 x.ho,.bool x.vn,.bool x.dr])).run prog w=.ok (.bool true) w:=(GL x x w).trans (by simp)
theorem Es (x:Hp) (w:World):(binOp .neq 87 (.agg #[.int .u8 x.vb,.int .i64 x.on,.int .i64 x.ct,.int .i64 x.ho,.bool x.vn,.bool x.dr]) (.agg #[.int .u8 x.vb,.int .i64 x.on,.int .i64 x.ct,.int .i64 x.ho,.bool x.vn,.bool x.dr])).run prog w=.ok (.bool false) w:=(DO x x w).trans (by simp)
theorem Fo (a c:Sd) (w:World):(binOp .eql 64 (.agg #[.int .i64 a.th,.int .i64 a.pl,.int .u8 a.wh.wn,.int .u8 a.wh.vb,.int .u8 a.wh.wm,.int .i64 a.wh.ct,.int .u8 a.wh.su,.int .u8 a.wh.tr,.int .u8 a.wh.mr,.string a.wh.nm]) (.agg #[.int .i64 c.th,.int .i64 c.pl,.int .u8 c.wh.wn,.int .u8 c.wh.vb,.int .u8 c.wh.wm,.int .i64 c.wh.ct,.int .u8 c.wh.su,.int .u8 c.wh.tr,.int .u8 c.wh.mr,.string c.wh.nm])).run prog w=.ok (.bool (eM a c)) w:=DW.1 a c w
theorem FQ (s:Sd) (w:World):(binOp .neq 64 (.agg #[.int .i64 s.th,.int .i64 s.pl,.int .u8 s.wh.wn,.int .u8 s.wh.vb,.int .u8 s.wh.wm,.int .i64 s.wh.ct,.int .u8 s.wh.su,.int .u8 s.wh.tr,.int .u8 s.wh.mr,.string s.wh.nm]) (.agg #[.int .i64 s.th,.int .i64 s.pl,.int .u8 s.wh.wn,.int .u8 s.wh.vb,.int .u8 s.wh.wm,.int .i64 s.wh.ct,.int .u8 s.wh.su,.int .u8 s.wh.tr,.int .u8 s.wh.mr,.string s.wh.nm])).run prog w=.ok (.bool false) w:=yQ s w
theorem yq (op:BinOp) (x y:Operand) (xs ys:Array Value) (w:World):(eqGuard op 64 x y (.agg xs) (.agg ys)).run prog w=.ok () w:=run_eqGuard_agg w op 64 x y xs ys (by kernel_rfl)
theorem BD {a b:Sd} (h:¬a=b):eM a b=false:=by
 cases e:eM a b with
 | false=>rfl
 | true=>exact absurd (fH.1 e) h
structure RIn (ok:Nat→Prop) (w:World) (r:Nat) (v:Value) (p:Pl) (gs:List Ent) (vt vf:Value) (ts:List Th) (F:List Fe):Prop where
 rd:RD ok w r v p gs
 th:thR.At w vt ts
 fe:feR.At w vf F
 good:kp (atC p gs)
 tr:TrI F
theorem RIn.keep {r:Nat} (h:RIn ok w r v p gs vt vf ts F) (g:w.grownBy w' none):RIn ok w' r v p gs vt vf ts F:=⟨h.rd.keep g,h.th.keep g,h.fe.keep g,h.good,h.tr⟩
theorem Bf {n:Nat} (h:aX p n=0):p.shut=true∧n≤2048:=by
 unfold aX at h;split at h
 ·cases h
 ·split at h
  ·exact⟨by assumption,by omega⟩
  ·cases h
theorem RIn.sw {r:Nat} (h:RIn ok w r v p gs vt vf ts F) (hb:bgE (aX p ts.length) (gs.length:Int) (atC p gs) ts F 1=0):∃ R,bI (gs.length:Int) (atC p gs) ts F=some R∧RSw ok w r v p gs vt vf ts F R:=by
 obtain⟨h1,R,hR,hT⟩:=lC hb;obtain⟨h2,h3⟩:=Bf h1;exact⟨R,hR,h.rd,h.th,h.fe,hT,h2,h3,h.good⟩
theorem jd (ok:Nat→Prop) (r:Nat) (v:Value) (p:Pl) (gs:List Ent) (vt vf:Value) (ts:List Th) (F:List Fe) (w:World) (I:RIn ok w r v p gs vt vf ts F):Calls prog 45 #[.pointer (some ⟨r,0,none⟩),vt,vf] w fun e w'=>∃ v,e=.returned (.tuple #[v,.int .i64 (bgE (aX p ts.length) (gs.length:Int) (atC p gs) ts F 1)])∧aV w' w.heap.size v (swT (aX p ts.length) (gs.length:Int) (atC p gs) ts F)∧w.grownBy w' none:=by
 have C1:=l3 ok r v p gs vt vf ts F w I.rd I.th I.fe I.tr;rw[←Du] at C1;by_cases hb:bgE (aX p ts.length) (gs.length:Int) (atC p gs) ts F 1=0
 ·obtain⟨R,hR,hI⟩:=I.sw hb;rw[hb] at C1 ⊢;rw[kl hb hR];exact xt ok r v p gs vt vf ts F R w hI C1
 ·have HN:QH (swT (aX p ts.length) (gs.length:Int) (atC p gs) ts F=[]):=Gr hb;obtain⟨x,hx⟩:=Qe (bgE (aX p ts.length) (gs.length:Int) (atC p gs) ts F 1);rw[←hx] at C1 hb ⊢;have ex:(x != 0)=true:=by simpa using hb
  obtain⟨pt,ct,rfl⟩:=I.th.form;obtain⟨pf,cf,rfl⟩:=I.fe.form;clear hb hx I;go_enter func45,ntmps45;go_wp2_with fail;refine C1.mono ?_;rintro e1 w1 ⟨rfl,g1⟩;have HG1:QH (w.grownBy w1 none):=g1;clear C1 g1;go_wp2_with fail;go_ret2;exact⟨_,rfl,by rw[HN.o];exact aB.Own.nil _ _ _ _,HG1.o⟩
end Go.Proofs.YtjmepebbcnhalaaGreat
namespace Go.Proofs.YtjmepebbcnhalaaGreat
open Tryz
set_option maxHeartbeats 2000000
open Go.RowKit
variable {ps:List Pt} {q:Pt} {nu:Int} {j k m b:Nat} {R:List Rw} {F fs:List Fe} {f:Fe} {ok:Nat→Prop} {w w':World} {es gs:List Ent} {p:Pl} {vt vf v:Value} {ts:List Th} {t:Th}
theorem info3iE:(prog.info? 3).map (fun i=>(i.zero,i.size,i.bytes))=some (some (.int .i64 0),1,8):=by kernel_rfl

def qy (t u:Th):Bool:=decide (t.card=u.card∧t.owner=u.owner∧t.place=u.place∧t.stamp=u.stamp∧t.hurt=u.hurt∧(t.m0=u.m0∧t.m1=u.m1∧t.m2=u.m2∧t.m3=u.m3)∧t.done=u.done∧t.fresh=u.fresh)
theorem AZ {u:Th}:qy t u=true↔t=u:=by
 unfold qy;rw[decide_eq_true_iff];constructor
 ·rintro⟨h1,h2,h3,h4,h5,⟨h6,h7,h8,h9⟩,h10,h11⟩;cases t;cases u;simp only at h1 h2 h3 h4 h5 h6 h7 h8 h9 h10 h11;subst h1 h2 h3 h4 h5 h6 h7 h8 h9 h10 h11;rfl
 ·rintro rfl;simp
theorem Gs (op:BinOp) (x y:Operand) (xs ys:Array Value) (w:World):(eqGuard op 120 x y (.agg xs) (.agg ys)).run prog w=.ok () w:=run_eqGuard_agg w op 120 x y xs ys (by kernel_rfl)
theorem rv (a0 a1 a2 a3 b0 b1 b2 b3:Int) (w:World):(Op.equalIn 9999 118 (.agg #[.int .i64 a0,.int .i64 a1,.int .i64 a2,.int .i64 a3]) (.agg #[.int .i64 b0,.int .i64 b1,.int .i64 b2,.int .i64 b3])).run prog w=.ok (decide (a0=b0∧a1=b1∧a2=b2∧a3=b3)) w:=by
 obtain⟨i0,hi,_⟩:=info_parts info3iE;have u3:=underlying3;have i3:=isAgg3;have z3:=sizeOf3;have hc:prog.cellsOf 3=1:=by kernel_rfl
 rw[show (9999:Nat)=9998+1 from rfl,run_equalIn_array w 9998 _ _ underlying118 hi,hc,show List.range 4=[0,1,2,3] from rfl];simp only[Op.eqItems];go_simp;by_cases h0:a0=b0
 case neg=>simp[h0]
 simp only[h0];by_cases h1:a1=b1
 case neg=>simp[h1]
 simp only[h1];by_cases h2:a2=b2
 case neg=>simp[h2]
 simp only[h2];by_cases h3:a3=b3
 case neg=>simp[h3]
 simp[h3]
theorem xu (ac ao ap ax ah am0 am1 am2 am3 ad bc bo bp bx bh bm0 bm1 bm2 bm3 bd:Int) (af bf:Bool) (w:World):(Op.equalIn 10000 120 (.agg #[.int .i64 ac,.int .i64 ao,.int .u8 ap,.int .i64 ax,.int .i64 ah,.int .i64 am0,.int .i64 am1,.int .i64 am2,.int .i64 am3,.int .i64 ad,.bool af]) (.agg #[.int .i64 bc,.int .i64 bo,.int .u8 bp,.int .i64 bx,.int .i64 bh,.int .i64 bm0,.int .i64 bm1,.int .i64 bm2,.int .i64 bm3,.int .i64 bd,.bool bf])).run prog w=.ok (qy (⟨ac,ao,ap,ax,ah,am0,am1,am2,am3,ad,af⟩:Th) (⟨bc,bo,bp,bx,bh,bm0,bm1,bm2,bm3,bd,bf⟩:Th)) w:=by
 unfold qy;have hS:prog.underlying 120=some (.struct (prog.fieldsOf 120)):=by kernel_rfl
 have hp:prog.stoodInHeld 120=false:=by kernel_rfl
 have u3:=underlying3;have i3:=isAgg3;have z3:=sizeOf3;have u4:=underlying4;have i4:=isAgg4;have z4:=sizeOf4;have uP:=underlying117;have iP:=isAgg117;have zP:=sizeOf117;have iA:=isAgg118;have zA:=sizeOf118;have h4:=rv am0 am1 am2 am3 bm0 bm1 bm2 bm3;rw[show (10000:Nat)=9999+1 from rfl,run_equalIn_agg w 9999 120 _ _ hS hp];simp only[Program.fieldsOf,underlying120];go_simp;by_cases hc:ac=bc
 case neg=>simp[hc]
 simp only[hc];by_cases ho:ao=bo
 case neg=>simp[ho]
 simp only[ho];by_cases hp:ap=bp
 case neg=>simp[hp]
 simp only[hp];by_cases hx:ax=bx
 case neg=>simp[hx]
 simp only[hx];by_cases hh:ah=bh
 case neg=>simp[hh]
 simp only[hh];by_cases hm0:am0=bm0
 case neg=>simp[hm0]
 simp only[hm0];by_cases hm1:am1=bm1
 case neg=>simp[hm1]
 simp only[hm1];by_cases hm2:am2=bm2
 case neg=>simp[hm2]
 simp only[hm2];by_cases hm3:am3=bm3
 case neg=>simp[hm3]
 simp only[hm3];by_cases hd:ad=bd
 case neg=>simp[hd]
 simp only[hd];by_cases hf:af=bf
 case neg=>simp[hf]
 simp[hf]
theorem Gk (ac ao ap ax ah am0 am1 am2 am3 ad bc bo bp bx bh bm0 bm1 bm2 bm3 bd:Int) (af bf:Bool) (w:World):(binOp .neq 120 (.agg #[.int .i64 ac,.int .i64 ao,.int .u8 ap,.int .i64 ax,.int .i64 ah,.int .i64 am0,.int .i64 am1,.int .i64 am2,.int .i64 am3,.int .i64 ad,.bool af]) (.agg #[.int .i64 bc,.int .i64 bo,.int .u8 bp,.int .i64 bx,.int .i64 bh,.int .i64 bm0,.int .i64 bm1,.int .i64 bm2,.int .i64 bm3,.int .i64 bd,.bool bf])).run prog w=.ok (.bool (!qy (⟨ac,ao,ap,ax,ah,am0,am1,am2,am3,ad,af⟩:Th) (⟨bc,bo,bp,bx,bh,bm0,bm1,bm2,bm3,bd,bf⟩:Th))) w:=by
 rw[run_neq_struct,xu];rfl
