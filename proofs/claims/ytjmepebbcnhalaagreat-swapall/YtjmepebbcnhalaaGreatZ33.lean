import Derived.Test.YtjmepebbcnhalaaGreatZ32
namespace Go.Proofs.YtjmepebbcnhalaaGreat
open Tryz
set_option maxRecDepth 100000
set_option maxHeartbeats 4000000
open Go.RowKit Go.Shelf
variable {r n:Int} {cd:Int→Hd×List Pt} {ts:List Th} {F:List Fe} {p:Pl} {gs:List Ent} {me:Th→Int} {k g i:Nat} {w w':World} {v:Value} {S:List Sd} {R:List Rw} {L:List Se}
theorem yv {k:Int} (h:lkE r n cd ts F []=0) (hk:¬(1≤k∧k≤5)):bgE r n cd ts F k=2:=by
 unfold bgE;rw[if_pos h,if_neg hk]
theorem Gc {k:Int} (h:lkE r n cd ts F []=0) (hk:1≤k∧k≤5):bgE r n cd ts F k=0:=by
 unfold bgE;rw[if_pos h,if_pos hk]
theorem F5 {k q:Int} (h:q=lkE r n cd ts F []) (h0:q≠0):bgE r n cd ts F k=q:=by
 unfold bgE;rw[←h,if_neg h0]
theorem kR (ok:Nat→Prop) (r:Nat) (v:Value) (p:Pl) (gs:List Ent) (vt vf:Value) (ts:List Th) (F:List Fe) (k:Int) (w:World) (B:RD ok w r v p gs) (A:thR.At w vt ts) (AF:feR.At w vf F) (hr:TrI F):Calls prog 14 #[.pointer (some ⟨r,0,none⟩),vt,vf,.int .i64 k] w (fU w (aX p ts.length) (gs.length:Int) (atC p gs) ts F k):=by
 obtain⟨pt,ct,rfl⟩:=A.form;obtain⟨pf,cf,rfl⟩:=AF.form;have C1:=vN ok r v p gs _ _ ts F w B A AF hr;have HV:QH (RD ok w r v p gs∧thR.At w (.slice pt ts.length ct) ts∧feR.At w (.slice pf F.length cf) F):=⟨B,A,AF⟩
 obtain⟨q,hq⟩:=Qe (lkE (aX p ts.length) (gs.length:Int) (atC p gs) ts F []);have Hq:QH (q=lkE (aX p ts.length) (gs.length:Int) (atC p gs) ts F []):=hq;rw[←hq] at C1;clear B A AF hr hq;go_enter func14,ntmps14;go_wp2_with fail;refine C1.mono ?_;rintro e1 w1 ⟨rfl,g1⟩;have H1:QH (w.grownBy w1 none∧RD ok w1 r v p gs∧thR.At w1 (.slice pt ts.length ct) ts∧feR.At w1 (.slice pf F.length cf) F):=⟨g1,HV.o.1.keep g1,HV.o.2.1.keep g1,HV.o.2.2.keep g1⟩
 clear C1 g1 HV;by_cases h0:q=0
 ·have HZ:QH (lkE (aX p ts.length) (gs.length:Int) (atC p gs) ts F []=0):=by show _=_;rw[←Hq.o,h0]
  obtain⟨r0,R,hR⟩:=rW (Hq.o.symm.trans h0)
  have hlen:ts.length≤2048:=Qac fun z=>by
   unfold aX at r0;rw[if_pos z] at r0;cases r0
  have HT:QH (aX p ts.length=0∧Tab (gs.length:Int) (atC p gs) ts F R∧ts.length≤2048):=⟨r0,Tab.of hR,hlen⟩
  have e0:(q != 0)=false:=by rw[h0];rfl
  clear h0 r0 hR hlen;by_cases a1:k<1
  ·have d1:decide (k<1)=true:=Qy a1;have HN:QH (bgE (aX p ts.length) (gs.length:Int) (atC p gs) ts F k=2∧¬(1≤k∧k≤5)):=⟨yv HZ.o (by omega),by omega⟩
   clear a1;go_wp2_with fail;go_ret2;exact⟨none,0,0,by rw[HN.o.1] <;> rfl,H1.o.1,fun _=>⟨rfl,rfl,rfl⟩,fun R' _ hk=>absurd hk HN.o.2⟩
  ·have d1:decide (k<1)=false:=Qx a1;by_cases a2:5<k
   ·have d2:decide (5<k)=true:=Qy a2;have HN:QH (bgE (aX p ts.length) (gs.length:Int) (atC p gs) ts F k=2∧¬(1≤k∧k≤5)):=⟨yv HZ.o (by omega),by omega⟩
    clear a1 a2;go_wp2_with fail;go_ret2;exact⟨none,0,0,by rw[HN.o.1] <;> rfl,H1.o.1,fun _=>⟨rfl,rfl,rfl⟩,fun R' _ hk=>absurd hk HN.o.2⟩
   ·have d2:decide (5<k)=false:=Qx a2;have HN:QH (bgE (aX p ts.length) (gs.length:Int) (atC p gs) ts F k=0):=Gc HZ.o (by omega);have C2:=rA ok r v p gs _ _ ts F R k w1 H1.o.2.1 H1.o.2.2.1 H1.o.2.2.2 HT.o.2.1 HT.o.2.2;clear a1 a2;go_wp2_with fail;refine C2.mono ?_;rintro e2 w2 ⟨v2,rfl,o2,g2⟩;obtain⟨p2,c2,ev⟩:=aB.Own.form o2;subst ev;have H2:QH (aV w2 w.heap.size (.slice p2 ((dI R (ay R F) k).map Se.s).length c2) ((dI R (ay R F) k).map Se.s)∧w.grownBy w2 none):=⟨bj o2 H1.o.1.size,aa H1.o.1 g2⟩
    clear C2 o2 g2;go_wp2_with fail;go_ret2
    exact⟨p2,_,c2,by rw[HN.o] <;> rfl,H2.o.2,fun z=>absurd HN.o z,fun R' _ _ hR'=>by
     rw[HT.o.2.1.tab] at hR';cases hR';have h9:=H2.o.1;rw[Qa9] at h9
     exact h9⟩
 ·have e0:(q != 0)=true:=by simpa using h0
  have HN:QH (bgE (aX p ts.length) (gs.length:Int) (atC p gs) ts F k=q):=F5 Hq.o h0;have H0:QH (q≠0):=h0;clear h0;go_wp2_with fail;go_ret2
  exact⟨none,0,0,by rw[HN.o] <;> rfl,H1.o.1,fun _=>⟨rfl,rfl,rfl⟩,fun R' r0 _ hR'=>by
   have h9:=Hq.o;rw[r0,ks hR'] at h9
   exact absurd h9 H0.o⟩
set_option maxHeartbeats 8000000
def meR (t:Th):Int:=if ji t.m0 t.m1 t.m2 t.m3=true then 0 else 2
def vkR (p:Pl) (gs:List Ent) (ts:List Th):Int:=vkE (aX p ts.length) (gs.length:Int) (atC p gs) ts (dR (pfR p gs) (ts.take 2048)) meR
theorem EY (r n:Int) (cd:Int→Hd×List Pt) (ts:List Th) (F:List Fe):bgE r n cd ts F 1=lkE r n cd ts F []:=by
 unfold bgE;by_cases h:lkE r n cd ts F []=0
 ·rw[if_pos h,if_pos (by decide),h]
 ·rw[if_neg h]
theorem tQ (r n:Int) (cd:Int→Hd×List Pt) (ts:List Th) (F:List Fe):bgE r n cd ts F 1=bgE r n cd ts F 5:=by
 unfold bgE;by_cases h:lkE r n cd ts F []=0
 ·rw[if_pos h,if_pos h,if_pos (by decide),if_pos (by decide)]
 ·rw[if_neg h,if_neg h]
theorem yN {q:Int} (h:aX p ts.length=q) (hq:q≠0):vkR p gs ts=q:=by
 unfold vkR;have e:bgE (aX p ts.length) (gs.length:Int) (atC p gs) ts (dR (pfR p gs) (ts.take 2048)) 5=q:=by rw[Gn (by rw[h];exact hq),h]
 rw[wv (by rw[e];exact hq),e]
theorem Di {q:Int} (hl:ts.length≤2048) (h:bgE (aX p ts.length) (gs.length:Int) (atC p gs) ts (dR (pfR p gs) ts) 1=q) (hq:q≠0):vkR p gs ts=q:=by
 unfold vkR;rw[Qba hl];rw[tQ] at h;rw[wv (by rw[h];exact hq),h]
theorem Gg (hl:ts.length≤2048) (h:bgE (aX p ts.length) (gs.length:Int) (atC p gs) ts (dR (pfR p gs) ts) 1=0):vkR p gs ts=mkE meR ts:=by
 unfold vkR;rw[Qba hl];rw[tQ] at h;rw[yG h]
theorem zn {n:Nat} (h:¬n≤2048):aX p n=3:=if_pos (by omega)
theorem zo {n:Nat} (h:n≤2048) (hs:p.shut=false):aX p n=2:=by unfold aX;rw[if_neg (by omega),hs];rfl
theorem rr {n:Nat} (h:n≤2048) (hs:p.shut=true):aX p n=0:=by unfold aX;rw[if_neg (by omega),if_pos hs]
theorem uY (h:bI n cd ts F=none):bgE 0 n cd ts F 1=2:=by rw[EY,rP h]
theorem Dr {t:Th} (h:mkE me ts=mkE me (ts.drop k)) (ht:ts[k]?=some t):mkE me ts=mkE me (t :: ts.drop (k+1)):=by
 obtain⟨hk,e⟩:=Qh ht;rw[h,Qb7 hk,e]
theorem DZ (h:mkE me ts=mkE me (ts.drop ts.length)):mkE me ts=0:=by rw[h,Qbf];rfl
def StP (w:World) (p:Pl) (gs:List Ent) (ts:List Th) (e:Ending) (w':World):Prop:=∃ v,e=.returned (.tuple #[v,.int .i64 (vkR p gs ts)])∧w.grownBy w' none∧(¬vkR p gs ts=0→v=.slice none 0 0)∧(vkR p gs ts=0→cJ w' w.heap.size v (dR (pfR p gs) ts))
theorem StP.no {q:Int} (h:vkR p gs ts=q) (hq:q≠0) (g:w.grownBy w' none):StP w p gs ts (.returned (.tuple #[.slice none 0 0,.int .i64 q])) w':=⟨_,by rw[h],g,fun _=>rfl,fun z=>absurd (h.symm.trans z) hq⟩
theorem sJ (ok:Nat→Prop) (r:Nat) (vr:Value) (p:Pl) (gs:List Ent) (v:Value) (ts:List Th) (w:World) (B:RD ok w r vr p gs) (A:thR.At w v ts) (hc:RgC (atC p gs)):Calls prog 92 #[.pointer (some ⟨r,0,none⟩),v] w (StP w p gs ts):=by
 have C1:=bA r vr p w B.rj;have C2:=fW r vr p w B.rj;have HP:QH (ts.length≤2048→Calls prog 158 #[.pointer (some ⟨r,0,none⟩),v] w fun e w'=>∃ v' b,e=.returned (.tuple #[v',.bool b])∧w.grownBy w' none∧((b=true∧cJ w' w.heap.size v' (dR (pfR p gs) ts)∧∀ t∈ts,ptR p gs t=0)∨(b=false∧v'=.slice none 0 0∧∃ t∈ts,¬ptR p gs t=0))):=fun q=>oN ok r vr p gs v ts w B A q;have HEf:QH (∀ X vf,w.grownBy X none→feR.At X vf (dR (pfR p gs) ts)→Calls prog 14 #[.pointer (some ⟨r,0,none⟩),v,vf,.int .i64 1] X (fU X (aX p ts.length) (gs.length:Int) (atC p gs) ts (dR (pfR p gs) ts) 1)):=fun X vf g F=>kR ok r vr p gs v vf ts _ 1 X (B.keep g) (A.keep g) F (sC hc ts).tr;have HA:QH (thR.At w v ts):=A;obtain⟨pt,ct,rfl⟩:=A.form;clear A B hc;go_enter func92,ntmps92;go_wp2_with fail;refine C1.mono ?_;rintro e1 w1 ⟨rfl,hw1⟩;rw[hw1];clear hw1 w1 C1;by_cases hl:ts.length≤2048
 ·have h2':decide ((2048:Int)<(ts.length:Int))=false:=Qx (by omega);have Hl:QH (ts.length≤2048):=hl;have CP:=HP.o hl;obtain⟨sh,hsh⟩:=Qe (p.shut);have Hsh:QH (sh=p.shut):=hsh;rw[←hsh] at C2;clear hsh hl;go_wp2_with fail;refine C2.mono ?_;rintro e2 w2 ⟨rfl,hw2⟩;rw[hw2];clear hw2 w2 C2;cases sh with
  | false =>
   have HE:QH (vkR p gs ts=2):=yN (zo Hl.o Hsh.o.symm) (by decide);clear CP;go_wp2_with fail;go_ret2;exact StP.no HE.o (by decide) (aw _ _)
  | true =>
   have Hr:QH (aX p ts.length=0):=rr Hl.o Hsh.o.symm;go_wp2_with fail;refine CP.mono ?_;rintro e3 w3 ⟨vf,b,rfl,g3,h3⟩;have HG3:QH (w.grownBy w3 none):=g3;clear CP g3
   rcases h3 with ⟨rfl,O,-⟩ | ⟨rfl,rfl,t,ht,hx⟩
   ·have CE:=HEf.o w3 vf HG3.o (aB.Own.at O);unfold fU at CE;have HO:QH (cJ w3 w.heap.size vf (dR (pfR p gs) ts)):=O;obtain⟨pf,cf,rfl⟩:=aB.Own.form O;clear O;obtain⟨x,hx⟩:=Qe (bgE (aX p ts.length) (gs.length:Int) (atC p gs) ts (dR (pfR p gs) ts) 1);have HX:QH (x=bgE (aX p ts.length) (gs.length:Int) (atC p gs) ts (dR (pfR p gs) ts) 1):=hx;rw[←hx] at CE;clear hx;go_wp2_with fail;refine CE.mono ?_;rintro e4 w4 ⟨pe,me,ce,rfl,g4,-⟩;have HG4:QH (w.grownBy w4 none∧cJ w4 w.heap.size (.slice pf (dR (pfR p gs) ts).length cf) (dR (pfR p gs) ts)):=⟨aa HG3.o g4,aC HO.o g4⟩
    clear CE g4 HO HG3;by_cases hx:x=0
    ·have ex:(x != 0)=false:=(by rw[hx];rfl);have HV:QH (vkR p gs ts=mkE meR ts):=Gg Hl.o (HX.o.symm.trans hx);clear hx;go_wp2_with fail;clear ex h2';go_loopw [11,12] (fun i _ wr=>∃ (k:Nat),k≤ts.length∧i=.int .i64 (k:Int)∧QH (w4.grownBy wr none∧mkE meR ts=mkE meR (ts.drop k))) (fun i _ _=>ts.length - (intOf i).toNat)
     case atStart=>exact⟨0,Q0 _,rfl,aw _ _,rfl⟩
     case round =>
      obtain⟨k,hk,rfl,HI⟩:=hrel;obtain⟨U,hU⟩:=Qe (wr);subst hU;by_cases hlt:k<ts.length
      ·have k1:(k:Int)<(ts.length:Int):=Int.ofNat_lt.2 hlt;have hwk:=aR (k:=k) (Ql (Qaf hlt) (Ql Hl.o (by decide)));have HM:QH (ts.length - (intOf (.int .i64 ((k:Int)+1))).toNat<ts.length - (intOf (.int .i64 (k:Int))).toNat):=cj hlt;obtain⟨gT,oT,cT,eT,rT⟩:=bz (HA.o.keep (aa HG4.o.1 HI.o.1)) hlt;injection eT with eT eT2 eT3;clear eT2 eT3;subst eT;obtain⟨t,ht⟩:∃ t,ts[k]?=some t:=⟨_,Qg hlt⟩
       rw[show ts[k]=t from (Qh ht).2] at rT;have HR:QH (U.rangeAt gT (oT+k*11) (thc t)):=rT;have HD:QH (mkE meR ts=mkE meR (t :: ts.drop (k+1))∧k<ts.length):=⟨Dr HI.o.2 ht,hlt⟩
       have HFin:∀ W,(¬mkE meR ts=0∧mkE meR ts=2)→U.grownBy W none→StP w p gs ts (.returned (.tuple #[.slice none 0 0,.int .i64 2])) W:=fun W q g=>StP.no (HV.o.trans q.2) (by decide) (aa (aa HG4.o.1 HI.o.1) g);have HFn:QH (∀ W,(¬mkE meR ts=0∧mkE meR ts=2)→U.grownBy W none→StP w p gs ts (.returned (.tuple #[.slice none 0 0,.int .i64 2])) W):=HFin
       clear HFin rT hlt hk ht;go_wp2_with fail;by_cases hp:t.place=4
       ·have hpb:(t.place == 4)=true:=(by rw[hp];rfl);have Hp:QH (t.place=4):=hp
        have HNo:QH (ji t.m0 t.m1 t.m2 t.m3=false→¬mkE meR ts=0∧mkE meR ts=2):=fun q=>by
         have e:meR t=2:=(by unfold meR;rw[q];rfl);have e2:mkE meR ts=2:=(by rw[HD.o.1,CQ Hp.o (by rw[e];decide),e]);exact⟨by rw[e2];decide,e2⟩
        go_loopw [12] (fun m wr=>∃ (j:Nat),j≤4∧m=.int .i64 (j:Int)∧QH (U.grownBy wr none∧MlR t.m0 t.m1 t.m2 t.m3 j)) (fun m _=>4 - (intOf m).toNat)
        case atStart=>exact⟨0,by decide,rfl,aw _ _,fun h=>absurd h (by decide),fun h=>absurd h (by decide),fun h=>absurd h (by decide),fun h=>absurd h (by decide)⟩
        case round =>
         obtain⟨j,hj,rfl,HJ⟩:=hrel;obtain⟨Q,hQ⟩:=Qe (wr);subst hQ;obtain⟨c0,c1,c2,c3,c4,c5,c6,c7,c8,c9,c10⟩:=aZ (bQ HR.o HJ.o.1);rw[hp] at c2
         rcases (show j=0∨j=1∨j=2∨j=3∨j=4 from by omega) with rfl | rfl | rfl | rfl | rfl
         ·have x0:=c5;cases h0:okc t.m0 with
          | false =>
           have HE:QH (¬mkE meR ts=0∧mkE meR ts=2):=HNo.o (by unfold ji;simp[h0])
           rcases sm h0 with l | l
           ·have l1:decide (t.m0<0)=true:=Qy l;clear h0 l;go_wp2_with fail;go_ret2;exact HFn.o _ HE.o HJ.o.1
           ·have l1:decide (t.m0<0)=false:=Qx (by omega);have l2:decide (99<t.m0)=true:=Qy l;clear h0 l;go_wp2_with fail;go_ret2;exact HFn.o _ HE.o HJ.o.1
          | true =>
           have HK2:QH (MlR t.m0 t.m1 t.m2 t.m3 1):=(by have q:=HJ.o.2;have r:=h0;exact⟨fun _=>r,fun h=>absurd h (by decide),fun h=>absurd h (by decide),fun h=>absurd h (by decide)⟩);have l:=ik h0;have l1:decide (t.m0<0)=false:=Qx (by omega);have l2:decide (99<t.m0)=false:=Qx (by omega);clear h0 l;go_wp2_with fail;go_roundw
           case rel=>exact⟨1,by decide,by first | rfl | go_num,HJ.o.1,HK2.o⟩
           case measure=>simp[intOf]
         ·have x0:=c6;cases h0:okc t.m1 with
          | false =>
           have HE:QH (¬mkE meR ts=0∧mkE meR ts=2):=HNo.o (by unfold ji;simp[h0])
           rcases sm h0 with l | l
           ·have l1:decide (t.m1<0)=true:=Qy l;clear h0 l;go_wp2_with fail;go_ret2;exact HFn.o _ HE.o HJ.o.1
           ·have l1:decide (t.m1<0)=false:=Qx (by omega);have l2:decide (99<t.m1)=true:=Qy l;clear h0 l;go_wp2_with fail;go_ret2;exact HFn.o _ HE.o HJ.o.1
          | true =>
           have HK2:QH (MlR t.m0 t.m1 t.m2 t.m3 2):=(by have q:=HJ.o.2;have r:=h0;exact⟨fun _=>q.1 (by decide),fun _=>r,fun h=>absurd h (by decide),fun h=>absurd h (by decide)⟩);have l:=ik h0;have l1:decide (t.m1<0)=false:=Qx (by omega);have l2:decide (99<t.m1)=false:=Qx (by omega);clear h0 l;go_wp2_with fail;go_roundw
           case rel=>exact⟨2,by decide,by first | rfl | go_num,HJ.o.1,HK2.o⟩
           case measure=>simp[intOf]
         ·have x0:=c7;cases h0:okc t.m2 with
          | false =>
           have HE:QH (¬mkE meR ts=0∧mkE meR ts=2):=HNo.o (by unfold ji;simp[h0])
           rcases sm h0 with l | l
           ·have l1:decide (t.m2<0)=true:=Qy l;clear h0 l;go_wp2_with fail;go_ret2;exact HFn.o _ HE.o HJ.o.1
           ·have l1:decide (t.m2<0)=false:=Qx (by omega);have l2:decide (99<t.m2)=true:=Qy l;clear h0 l;go_wp2_with fail;go_ret2;exact HFn.o _ HE.o HJ.o.1
          | true =>
           have HK2:QH (MlR t.m0 t.m1 t.m2 t.m3 3):=(by have q:=HJ.o.2;have r:=h0;exact⟨fun _=>q.1 (by decide),fun _=>q.2.1 (by decide),fun _=>r,fun h=>absurd h (by decide)⟩);have l:=ik h0;have l1:decide (t.m2<0)=false:=Qx (by omega);have l2:decide (99<t.m2)=false:=Qx (by omega);clear h0 l;go_wp2_with fail;go_roundw
           case rel=>exact⟨3,by decide,by first | rfl | go_num,HJ.o.1,HK2.o⟩
           case measure=>simp[intOf]
         ·have x0:=c8;cases h0:okc t.m3 with
          | false =>
           have HE:QH (¬mkE meR ts=0∧mkE meR ts=2):=HNo.o (by unfold ji;simp[h0])
           rcases sm h0 with l | l
           ·have l1:decide (t.m3<0)=true:=Qy l;clear h0 l;go_wp2_with fail;go_ret2;exact HFn.o _ HE.o HJ.o.1
           ·have l1:decide (t.m3<0)=false:=Qx (by omega);have l2:decide (99<t.m3)=true:=Qy l;clear h0 l;go_wp2_with fail;go_ret2;exact HFn.o _ HE.o HJ.o.1
          | true =>
           have HK2:QH (MlR t.m0 t.m1 t.m2 t.m3 4):=(by have q:=HJ.o.2;have r:=h0;exact⟨fun _=>q.1 (by decide),fun _=>q.2.1 (by decide),fun _=>q.2.2.1 (by decide),fun _=>r⟩);have l:=ik h0;have l1:decide (t.m3<0)=false:=Qx (by omega);have l2:decide (99<t.m3)=false:=Qx (by omega);clear h0 l;go_wp2_with fail;go_roundw
           case rel=>exact⟨4,by decide,by first | rfl | go_num,HJ.o.1,HK2.o⟩
           case measure=>simp[intOf]
         ·have HE:QH (ji t.m0 t.m1 t.m2 t.m3=true):=(by show _=_;have q:=HJ.o.2;unfold ji;simp[q.1 (by decide),q.2.1 (by decide),q.2.2.1 (by decide),q.2.2.2 (by decide)]);clear c0 c1 c2 c3 c4 c5 c6 c7 c8 c9 c10
          have HN:QH (mkE meR ts=mkE meR (ts.drop (k+1))):=by
           show _=_;rw[HD.o.1,sA];rintro⟨a,b⟩;exact b (by unfold meR;rw[if_pos (HE.o)])
          go_wp2_with fail;go_roundw
          case rel=>exact⟨k+1,HD.o.2,by first | rfl | (rw[hwk];rfl) | go_num,aa HI.o.1 (HJ.o.1),HN.o⟩
          case measure=>first | exact HM.o | (rw[hwk];exact HM.o)
       ·have hpb:(t.place == 4)=false:=(by simpa using hp);have Hp:QH (¬t.place=4):=hp;clear hp;go_loopw [12] (fun m wr=>∃ (j:Nat),j≤4∧m=.int .i64 (j:Int)∧QH (U.grownBy wr none)) (fun m _=>4 - (intOf m).toNat)
        case atStart=>exact⟨0,by decide,rfl,aw _ _⟩
        case round =>
         obtain⟨j,hj,rfl,HJ⟩:=hrel;obtain⟨Q,hQ⟩:=Qe (wr);subst hQ;obtain⟨c0,c1,c2,-⟩:=aZ (bQ HR.o HJ.o);by_cases hj4:j<4
         ·have j1:(j:Int)<4:=(by omega);have hwj:=aR (k:=j) (by omega);have HMj:QH (4 - (intOf (.int .i64 ((j:Int)+1))).toNat<4 - (intOf (.int .i64 (j:Int))).toNat):=cj hj4;have Hj:QH (j<4):=hj4;clear hj hj4;go_wp2_with fail;go_roundw
          case rel=>exact⟨j+1,Hj.o,by first | rfl | (rw[hwj];rfl) | go_num,HJ.o⟩
          case measure=>first | exact HMj.o | (rw[hwj];exact HMj.o)
         ·have j1:¬(j:Int)<4:=(by omega);clear hj hj4 c0 c1 c2
          have HN:QH (mkE meR ts=mkE meR (ts.drop (k+1))):=by
           show _=_;rw[HD.o.1,sA];rintro⟨a,b⟩;exact b (by unfold meR;rw[if_pos (absurd a Hp.o)])
          go_wp2_with fail;go_roundw
          case rel=>exact⟨k+1,HD.o.2,by first | rfl | (rw[hwk];rfl) | go_num,aa HI.o.1 (HJ.o),HN.o⟩
          case measure=>first | exact HM.o | (rw[hwk];exact HM.o)
      ·obtain rfl:k=ts.length:=Qag hk (Qac hlt);have k1:¬(ts.length:Int)<(ts.length:Int):=Qb3 _;have HZ:QH (vkR p gs ts=0):=HV.o.trans (DZ HI.o.2);clear hk hlt;go_wp2_with fail;go_ret2;exact⟨.slice pf (dR (pfR p gs) ts).length cf,by rw[HZ.o];rfl,aa HG4.o.1 HI.o.1,fun z=>absurd HZ.o z,fun _=>aC HG4.o.2 HI.o.1⟩
    ·have ex:(x != 0)=true:=(by simpa using hx);have HE:QH (vkR p gs ts=x∧¬x=0):=⟨Di Hl.o HX.o.symm hx,hx⟩
     clear hx;go_wp2_with fail;go_ret2;exact StP.no HE.o.1 HE.o.2 HG4.o.1
   ·have HE:QH (vkR p gs ts=2):=Di Hl.o (by rw[Hr.o];exact uY (Fg Hsh.o.symm ht hx)) (by decide);clear ht hx;go_wp2_with fail;go_ret2;exact StP.no HE.o (by decide) HG3.o
 ·have h2':decide ((2048:Int)<(ts.length:Int))=true:=Qy (by omega);have HE:QH (vkR p gs ts=3):=yN (zn hl) (by decide);clear hl C2;go_wp2_with fail;go_ret2;exact StP.no HE.o (by decide) (aw _ _)
theorem CJ (mf:Fe→Th→Fe) (ts:List Th) (fs:List Fe) (hl:ts.length=fs.length):dJ (fun i=>vD mf (ts.getD i Th.none) (fs.getD i Fe.none)) fs.length fs.length=kf mf ts fs:=by
 rw[qt];unfold kf;refine Qci (by simp;omega) fun i h1 h2=>?_;simp only[List.getElem_map,List.getElem_range,List.getElem_zipWith];simp only[List.length_zipWith] at h2;rw[aG (by omega),aG (by omega)]
theorem yz (h:w.cell? ⟨g,i,none⟩=some v):g<w.heap.size:=by
 unfold World.cell? at h;cases hg:w.heap[g]? with
 | none=>simp[hg] at h
 | some o=>exact(Array.getElem?_eq_some_iff.1 hg).1
set_option maxHeartbeats 4000000
def mfR (p:Pl) (f:Fe) (t:Th):Fe:=if ji t.m0 t.m1 t.m2 t.m3=true then tu p f t.m0 t.m1 t.m2 t.m3 else Fe.none
theorem qn (ok:Nat→Prop) (r:Nat) (vr:Value) (p:Pl) (gs:List Ent) (vt vf:Value) (ts:List Th) (fs:List Fe) (w:World) (B0:RD ok w r vr p gs) (A:thR.At w vt ts) (B:feR.At w vf fs) (hl:ts.length=fs.length) (h2:ts.length≤2048) (hg:RgL fs) (ho:∀ t∈ts,t.place=4→ji t.m0 t.m1 t.m2 t.m3=true):Calls prog 93 #[.pointer (some ⟨r,0,none⟩),vt,vf] w fun e w'=>∃ v',e=.returned v'∧cJ w' w.heap.size v' (kf (mfR p) ts fs)∧w.grownBy w' none:=by
 obtain⟨i0,hi,hz0,hz1,hz2⟩:=info_parts linfoF;obtain⟨pt,ct,rfl⟩:=A.form;obtain⟨pf,cf,rfl⟩:=B.form;obtain⟨h,hh⟩:∃ h:Nat→Fe,h=fun i=>vD (mfR p) (ts.getD i Th.none) (fs.getD i Fe.none):=⟨_,rfl⟩
 have Hh:QH (h=fun i=>vD (mfR p) (ts.getD i Th.none) (fs.getD i Fe.none)):=hh;have HA:QH (thR.At w (.slice pt ts.length ct) ts):=A;have HB:QH (feR.At w (.slice pf fs.length cf) fs):=B
 have HP:QH (∀ X f (t:Th),w.grownBy X none→t∈ts→t.place=4→f∈fs→Calls prog 159 #[.pointer (some ⟨r,0,none⟩),fev f,.agg #[.int .i64 t.m0,.int .i64 t.m1,.int .i64 t.m2,.int .i64 t.m3]] X fun e w'=>e=.returned (.tuple #[fev (mfR p f t),.int .i64 0])∧X.grownBy w' none):=fun X f t g q1 q2 q3=>by
  have z:=tv r vr p f t.m0 t.m1 t.m2 t.m3 X (B0.rj.keep g) B0.mkd (ho t q1 q2) (hg f q3).2;unfold mfR;rw[if_pos (ho t q1 q2)];exact z
 have Hl:QH (ts.length=fs.length∧ts.length≤2048):=⟨hl,h2⟩
 have Hbb:QH (i0.bytes*fs.length≤281474976710656):=by show i0.bytes*fs.length≤_;rw[hz2];omega
 have Hbm:QH (fs.length≤maxLen):=by show fs.length≤maxLen;unfold maxLen;omega
 clear A B B0 hl h2 hh hg ho;go_enter func93,ntmps93;go_wp2_with (at_make;refine wpList_make_full _ rfl _ _ 27 rfl w.heap.size 122 i0 _ 5 underlying27 hi hz0 hz1 .i64 .i64 _ _ fs.length rfl rfl rfl rfl Hbb.o Hbm.o (Qj _) ?_;intro V o1 gv;have HF0:QH (cJ V w.heap.size (.slice (some ⟨w.heap.size,0,none⟩) fs.length fs.length) (List.replicate fs.length Fe.none)):=tf o1;have HGV:QH (w.grownBy V none):=gv;clear o1 gv)
 obtain⟨g0,h0⟩:=Qe (w.heap.size);have Hg0:QH (g0=w.heap.size):=h0;simp only[←h0] at HF0 ⊢;clear h0 hi hz0 hz1 hz2;go_loopw [8] (fun i wr=>∃ k:Nat,k≤fs.length∧i=.int .i64 (k:Int)∧cJ wr g0 (.slice (some ⟨g0,0,none⟩) fs.length fs.length) (dJ h fs.length k)∧w.grownBy wr none) (fun i _=>fs.length - (intOf i).toNat)
 case atStart=>exact⟨0,Q0 _,rfl,by rw[pU];exact HF0.o,HGV.o⟩
 case round =>
  obtain⟨k,hk,rfl,O,G⟩:=hrel;obtain⟨U,hU⟩:=Qe (wr);subst hU;have HG:QH (w.grownBy U none):=G;by_cases hlf:k<fs.length
  ·have hlt:k<ts.length:=(by have:=Hl.o.1;omega);obtain⟨g,off,cap,e1,R⟩:=bz HA.o hlt;cases e1;obtain⟨gf,fof,fcap,e2,RF⟩:=dh HB.o hlf;cases e2;obtain⟨t,ht⟩:=Qe (ts[k]);rw[←ht] at R;obtain⟨f,hf⟩:=Qe (fs[k]);rw[←hf] at RF;have HT:QH (h k=vD (mfR p) t f):=(by show _=_;rw[Hh.o,ht,hf];show vD (mfR p) (ts.getD k Th.none) (fs.getD k Fe.none)=_;rw[aG hlt,aG hlf]);have Hmem:QH (t∈ts∧f∈fs):=⟨by rw[ht];exact Qab hlt,by rw[hf];exact Qab hlf⟩
   have Hgf:QH (some gf≠some g0∧some g≠some g0):=by
    have q:=yz (bP RF).1;have q2:=yz (aZ R).1;have:=Hg0.o;exact⟨by intro e;injection e with e;omega,by intro e;injection e with e;omega⟩
   obtain⟨c0,c1,c2,c3,c4,c5,c6,c7,c8,c9,c10⟩:=aZ (bQ R G);have HOY:QH (cJ U g0 (.slice (some ⟨g0,0,none⟩) fs.length fs.length) (dJ h fs.length k)):=O;have HRF:QH (U.rangeAt gf (fof+k*5) (fec f)):=bQ RF G;have hlt':(k:Int)<ts.length:=Int.ofNat_lt.2 hlt;have hlf':(k:Int)<fs.length:=Int.ofNat_lt.2 hlf;have hwk:=aR (k:=k) (Ql (Qaf hlt) (Ql Hl.o.2 (by decide)));have Hlt:QH (k<ts.length∧k<fs.length):=⟨hlt,hlf⟩
   have HM:QH (fs.length - (intOf (.int .i64 ((k:Int)+1))).toNat<fs.length - (intOf (.int .i64 (k:Int))).toNat):=cj hlf;clear O G R RF ht hf hlt hk hlf;by_cases hp:t.place=4
   ·have hpb:(t.place == 4)=true:=(by rw[hp];rfl);have HF:QH (h k=mfR p f t):=HT.o.trans (if_pos hp);have C0:=fun X q=>HP.o X f t q Hmem.o.1 hp Hmem.o.2;obtain⟨f2,hf2⟩:=Qe (mfR p f t)
    have HC:QH (∀ X,U.grownBy X none→Calls prog 159 #[.pointer (some ⟨r,0,none⟩),.agg #[.int .i64 f.ho,.int .u8 f.su,.int .u16 f.tr,.int .i64 f.po,.int .i64 f.he],.agg #[.int .i64 t.m0,.int .i64 t.m1,.int .i64 t.m2,.int .i64 t.m3]] X fun e w'=>e=.returned (.tuple #[.agg #[.int .i64 f2.ho,.int .u8 f2.su,.int .u16 f2.tr,.int .i64 f2.po,.int .i64 f2.he],.int .i64 0])∧X.grownBy w' none):=fun X q=>by
     have:=C0 X (aa HG.o q);rw[←hf2] at this;exact this
    rw[←hf2] at HF;obtain⟨f0,f1,f2',f3,f4⟩:=bP HRF.o;have hnf:=Hgf.o.1;have hng:=Hgf.o.2;clear hp hf2 HT C0;go_upto_region 6 with fail;refine wp_region_held_drew (S:=fun w'=>U.grownBy w' (some g0)) (by kernel_rfl) (dK _ _) (fun hHeld=>?_);refine QZ 0 rfl ?_;go_frame;refine QZ 1 rfl ?_;go_frame;refine QZ 2 rfl ?_;go_frame;refine QZ 3 rfl ?_;go_frame;refine QZ 4 rfl ?_;go_frame;refine QZ 5 rfl ?_;go_frame;refine QT 6 rfl (by intro w0 hSw;have f0:=hSw.cell f0 hnf;have f1:=hSw.cell f1 hnf;have f2':=hSw.cell f2' hnf;have f3:=hSw.cell f3 hnf;have f4:=hSw.cell f4 hnf;go_simp;try with_reducible rfl) ?_;go_frame;refine QZ 7 rfl ?_;go_frame;refine QZ 8 rfl ?_;go_frame;refine QZ 9 rfl ?_;go_frame;refine QZ 10 rfl ?_;go_frame;refine QT 11 rfl (by intro w0 hSw;have c5:=hSw.cell c5 hng;have c6:=hSw.cell c6 hng;have c7:=hSw.cell c7 hng;have c8:=hSw.cell c8 hng;go_simp;try with_reducible rfl) ?_;go_frame;clear f0 f1 f2' f3 f4 c0 c1 c2 c3 c4 c5 c6 c7 c8 c9 c10 hng hnf;refine QR 12 rfl (fun K hK=>?_);go_simp;go_at_call 159;refine(HC.o _ (ai _)).mono ?_;rintro e2 w2 ⟨rfl,g2⟩;have HG2:QH (U.grownBy w2 none):=aa (ai _) g2;clear g2;refine hK.out _ _ (fI HG2.o _) (fun hHeld2=>?_);clear hK K;(try go_frame);refine QZ 13 rfl ?_;go_frame;refine QZ 14 rfl ?_;go_frame;refine QZ 15 rfl ?_;go_frame;have HO2:QH (cJ w2 g0 (.slice (some ⟨g0,0,none⟩) fs.length fs.length) (dJ h fs.length k)):=aC HOY.o HG2.o;obtain⟨u0,u1,u2,u3,u4,y0,y1,y2,y3,y4,q0,q1,q2,q3,q4⟩:=wT (kG HO2.o (jB h _ k) Hlt.o.2);obtain⟨Z,hZ⟩:=Qe (((((w2.setCell ⟨g0,k*5,none⟩ (.int .i64 f2.ho)).setCell ⟨g0,k*5+1,none⟩ (.int .u8 f2.su)).setCell ⟨g0,k*5+2,none⟩ (.int .u16 f2.tr)).setCell ⟨g0,k*5+3,none⟩ (.int .i64 f2.po)).setCell ⟨g0,k*5+4,none⟩ (.int .i64 f2.he));have q:=pK HO2.o (jB h _ k) Hlt.o.2 f2;rw[show w2.setCells g0 (k*5) (fec f2)=Z from by rw[hZ];rfl] at q;have HGZ:QH (w2.grownBy Z (some g0)):=q.2;have HQ:QH (cJ Z g0 (.slice (some ⟨g0,0,none⟩) fs.length fs.length) (dJ h fs.length (k+1))∧w.grownBy Z none):=⟨by rw[←rt HF.o];exact q.1,ak (aa HG.o HG2.o) q.2 (fun y e=>by cases e;rw[Hg0.o];exact Qj _)⟩
    clear q;refine QZ 16 rfl ?_;go_frame;refine QR 17 rfl (fun K9 hK=>?_);go_simp;rw[←hZ];refine hK.out _ _ (aa (fI HG2.o _) HGZ.o) (fun hHeld3=>?_);clear hK K9;(try go_frame);refine QD ?_;clear hZ y0 y1 y2 y3 y4 q0 q1 q2 q3 q4;go_wp2_with fail;go_roundw
    case rel=>exact⟨k+1,Hlt.o.2,by first | rfl | (rw[hwk];rfl) | go_num,HQ.o⟩
    case measure=>first | exact HM.o | (rw[hwk];exact HM.o)
   ·have hpb:(t.place == 4)=false:=(by simpa using hp);have HF:QH (h k=Fe.none):=HT.o.trans (if_neg hp);have HQ:QH (cJ U g0 (.slice (some ⟨g0,0,none⟩) fs.length fs.length) (dJ h fs.length (k+1))∧w.grownBy U none):=⟨by rw[ot HF.o];exact HOY.o,HG.o⟩
    clear hp HT HF;go_wp2_with fail;go_roundw
    case rel=>exact⟨k+1,Hlt.o.2,by first | rfl | (rw[hwk];rfl) | go_num,HQ.o⟩
    case measure=>first | exact HM.o | (rw[hwk];exact HM.o)
  ·obtain rfl:k=fs.length:=Qag hk (Qac hlf);have HF:QH (cJ U w.heap.size (.slice (some ⟨g0,0,none⟩) fs.length fs.length) (kf (mfR p) ts fs)∧w.grownBy U none):=⟨by rw[←CJ (mfR p) ts fs Hl.o.1,←Hh.o,←Hg0.o];exact O,G⟩
   clear O G hk hlf;go_wp2_with fail;go_ret;exact⟨_,rfl,HF.o⟩
def ahL (ts:List Th) (a b:Sd):Bool:=ahB (gw ts a.th) (gw ts b.th) a.pl b.pl
def InT (ts:List Th) (a:Sd):Prop:=∃ (z:Nat) (t:Th),a.th=(z:Int)+1∧ts[z]?=some t
theorem rz {a b:Sd}:ahL ts a b=true↔gw ts a.th<gw ts b.th∨gw ts a.th=gw ts b.th∧a.pl<b.pl:=by
 unfold ahL ahB;simp[Bool.or_eq_true,Bool.and_eq_true,decide_eq_true_eq]
theorem oI (ts:List Th) (a:Sd):ahL ts a a=false:=Bool.eq_false_iff.2 fun h=>by rw[rz] at h;omega
theorem qY {a b c:Sd} (h1:ahL ts a b=true) (h2:ahL ts b c=true):ahL ts a c=true:=by rw[rz] at *;omega
theorem od (vt:Value) (ts:List Th) (a b:Sd) (w:World) (A:thR.At w vt ts) (ha:InT ts a) (hb:InT ts b) (hl:ts.length≤2048):Calls prog 140 #[vt,sdv a,sdv b] w fun e w'=>e=.returned (.bool (ahL ts a b))∧w.grownBy w' none:=by
 obtain⟨z,t,h1,h2⟩:=ha;obtain⟨y,u,h3,h4⟩:=hb;have e1:gw ts a.th=t.stamp:=by unfold gw;rw[h1,toN,Qa2,h2];rfl
 have e2:gw ts b.th=u.stamp:=by unfold gw;rw[h3,toN,Qa2,h4];rfl
 have h:=DB vt ts a b z y t u w A h1 h2 h3 h4 hl;unfold ahL;rw[e1,e2];exact h
structure NxU (ts:List Th) (S:List Sd) (P:Nat→Bool) (i a:Nat) (f:Int):Prop where
 first:a≤i∧(i=0→a=0)∧(0<i→a<i)∧∀ b,b<i→ahL ts (S.getD b Sd.none) (S.getD a Sd.none)=false
 free:(f=-1∧∀ b,b<i→P b=false)∨∃ c:Nat,c<i∧f=(c:Int)∧P c=true∧∀ b,b<i→P b=true→ahL ts (S.getD b Sd.none) (S.getD c Sd.none)=false
theorem NxU.start (ts:List Th) (S:List Sd) (P:Nat→Bool):NxU ts S P 0 0 (-1):=⟨⟨Qj _,fun _=>rfl,fun h=>absurd h (Qdf _),fun _ h=>absurd h (Qbh _)⟩,Or.inl ⟨rfl,fun _ h=>absurd h (Qbh _)⟩⟩
def NxF (ts:List Th) (S:List Sd) (i a:Nat):Prop:=a<i+1∧∀ b,b<i+1→ahL ts (S.getD b Sd.none) (S.getD a Sd.none)=false
theorem NxU.here {P:Nat→Bool} {a:Nat} {f:Int} (h:NxU ts S P i a f) (e:ahL ts (S.getD i Sd.none) (S.getD a Sd.none)=true):NxF ts S i i:=⟨Nat.lt_succ_self _,fun b hb=>by
 by_cases q:b=i
 ·subst q;exact oI _ _
 ·refine Bool.eq_false_iff.2 fun z=>?_;have:=qY z e;rw[h.first.2.2.2 b (by omega)] at this
  cases this⟩
theorem NxU.there {P:Nat→Bool} {a:Nat} {f:Int} (h:NxU ts S P i a f) (e:ahL ts (S.getD i Sd.none) (S.getD a Sd.none)=false):NxF ts S i a:=⟨Nat.lt_succ_of_le h.first.1,fun b hb=>by
 by_cases q:b=i
 ·subst q;exact e
 ·exact h.first.2.2.2 b (by omega)⟩
theorem NxF.next {a:Nat} (h:NxF ts S i a):a≤i+1∧(i+1=0→a=0)∧(0<i+1→a<i+1)∧∀ b,b<i+1→ahL ts (S.getD b Sd.none) (S.getD a Sd.none)=false:=⟨Qaf h.1,fun z=>absurd z (by omega),fun _=>h.1,h.2⟩
theorem NxU.stuck {P:Nat→Bool} {a a':Nat} {f:Int} (h:NxU ts S P i a f) (hf:NxF ts S i a') (hp:P i=false):NxU ts S P (i+1) a' f:=⟨hf.next,by
 rcases h.free with ⟨h1,h2⟩ | ⟨c,h1,h2,h3,h4⟩
 ·refine Or.inl ⟨h1,fun b hb=>?_⟩;by_cases q:b=i
  ·subst q;exact hp
  ·exact h2 b (by omega)
 ·refine Or.inr ⟨c,by omega,h2,h3,fun b hb hpb=>?_⟩;by_cases q:b=i
  ·subst q;rw[hp] at hpb;cases hpb
  ·exact h4 b (by omega) hpb⟩
theorem NxU.new {P:Nat→Bool} {i a a':Nat} (h:NxU ts S P i a (-1)) (hf:NxF ts S i a') (hp:P i=true):NxU ts S P (i+1) a' (i:Int):=⟨hf.next,by
 rcases h.free with ⟨h1,h2⟩ | ⟨c,h1,h2,h3,h4⟩
 ·refine Or.inr ⟨i,by omega,rfl,hp,fun b hb hpb=>?_⟩;by_cases q:b=i
  ·subst q;exact oI _ _
  ·rw[h2 b (by omega)] at hpb;cases hpb
 ·omega⟩
theorem NxU.less {P:Nat→Bool} {i a a' c:Nat} (h:NxU ts S P i a (c:Int)) (hf:NxF ts S i a') (hp:P i=true) (e:ahL ts (S.getD i Sd.none) (S.getD c Sd.none)=true):NxU ts S P (i+1) a' (i:Int):=⟨hf.next,by
 rcases h.free with ⟨h1,h2⟩ | ⟨c',h1,h2,h3,h4⟩
 ·omega
 ·obtain rfl:c=c':=by omega
  refine Or.inr ⟨i,by omega,rfl,hp,fun b hb hpb=>?_⟩;by_cases q:b=i
  ·subst q;exact oI _ _
  ·refine Bool.eq_false_iff.2 fun z=>?_;have:=qY z e;rw[h4 b (by omega) hpb] at this
   cases this⟩
theorem NxU.more {P:Nat→Bool} {a a' c:Nat} (h:NxU ts S P i a (c:Int)) (hf:NxF ts S i a') (hp:P i=true) (e:ahL ts (S.getD i Sd.none) (S.getD c Sd.none)=false):NxU ts S P (i+1) a' (c:Int):=⟨hf.next,by
 rcases h.free with ⟨h1,h2⟩ | ⟨c',h1,h2,h3,h4⟩
 ·omega
 ·obtain rfl:c=c':=by omega
  refine Or.inr ⟨c,by omega,rfl,h3,fun b hb hpb=>?_⟩;by_cases q:b=i
  ·subst q;exact e
  ·exact h4 b (by omega) hpb⟩
def hgK (R:List Rw) (F:List Fe) (L:List Se) (i k:Nat):Bool:=(List.range k).any fun j=>!decide (j=i) && uk R F (L.getD i Se.none) (L.getD j Se.none)
theorem kE (R:List Rw) (F:List Fe) (L:List Se) (i k:Nat):hgK R F L i (k+1)=(hgK R F L i k || (!decide (k=i) && uk R F (L.getD i Se.none) (L.getD k Se.none))):=by
 unfold hgK;rw[Qbu,List.any_append];simp
theorem uG {n:Nat} (h:hgK R F L i k=true) (hk:k≤n):hgK R F L i n=true:=by
 unfold hgK at *;rw[List.any_eq_true] at *;obtain⟨j,hj,e⟩:=h;exact⟨j,Qdb.2 (Qal (Qdb.1 hj) hk),e⟩
theorem kK:dN R F L i=!hgK R F L i L.length:=by
 unfold dN hgK;rw[Qd3];simp[List.all_eq_true,List.any_eq_false];constructor
 ·intro h j hj hne
  rcases h j hj with q | q
  ·exact absurd q.symm hne
  ·exact q
 ·intro h j hj;by_cases q:i=j
  ·exact Or.inl q
  ·exact Or.inr (h j hj (fun z=>q z.symm))
