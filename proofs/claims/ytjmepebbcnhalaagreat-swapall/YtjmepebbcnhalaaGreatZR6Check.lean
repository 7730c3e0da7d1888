/-

-/
import Derived.Test.YtjmepebbcnhalaaGreatZ13
namespace Go.Proofs.YtjmepebbcnhalaaGreat
set_option maxRecDepth 100000
set_option maxHeartbeats 8000000
open Go.RowKit
variable {a:Int}

theorem oE {k b:Int} (h:a≤k∧k≤b):wB k a b=true:=by simp[wB,h]
theorem vd {k b:Int} (h:¬(a≤k∧k≤b)):wB k a b=false:=by simp only[wB];by_cases x:a≤k <;> by_cases y:k≤b <;> simp[x,y];exact absurd ⟨x,y⟩ h
theorem ug {k:Int} (h:0≤k∧k≤255):IntKind.i64.wrap k=k:=by
 rw[IntKind.wrap_i64];omega
theorem uI (h:Hd) (v:Value) (ps:List Pt) (w:World) (hp:da w v ps) (hm:bl ps.length) (hwf:(h.with ps).wf):Calls Tryz.prog 117 #[cv h v] w fun e w'=>e=.returned (.int .i64 (gi (h.with ps)))∧w.grownBy w' none:=by
 obtain⟨nm,su,kd,co,po,he,tr,tk⟩:=h;have HP:QH (da w v ps):=hp;have HWP:QH (∀ p∈ps,p.wf):=hwf.ps;have HTR:QH (cM tr=decide (tr<256)):=ns tr hwf.tr.1 (by have:tr≤65535:=hwf.tr.2;omega);have ws:IntKind.i64.wrap su=su:=ug hwf.su;have wk:IntKind.i64.wrap kd=kd:=ug hwf.kd;obtain⟨a,c,rfl⟩:=hp.form;clear hp hwf;obtain⟨C,hC⟩:=Qe (Hd.with ⟨nm,su,kd,co,po,he,tr,tk⟩ ps);rw[←hC];have H1:QH (nm=C.nm∧su=C.su∧kd=C.kd∧co=C.co∧po=C.po∧he=C.he∧tr=C.tr∧tk=C.tk∧ps=C.ps):=by rw[hC];exact⟨rfl,rfl,rfl,rfl,rfl,rfl,rfl,rfl,rfl⟩
 obtain⟨res,hres⟩:∃ res,gi C=res:=⟨_,rfl⟩
 have HR:QH (gi C=res):=hres;rw[hres];clear hC hres;unfold cv;simp only;go_enter Tryz.func117,Tryz.ntmps117;go_wp2_with fail;refine(tY nm _).mono ?_;rintro e w9 ⟨rfl,rfl⟩;cases h1:aS nm.data.toList with
 | false =>
  go_wp2;go_ret;exact⟨aO (by rw[←HR.o];exact(re (by rw[←H1.o.1];exact h1)).symm),QG⟩
 | true =>
  have n1:QH (¬aS C.nm.data.toList=false):=by unfold QH;rw[←H1.o.1,h1];simp
  clear h1;go_wp2_with fail;refine(ft su 1 6 _).mono ?_;rintro e w9 ⟨rfl,rfl⟩;by_cases hx:1≤su∧su≤6
  case neg =>
   rw[vd hx];have T:QH (Two C):=Or.inl (by rw[←H1.o.2.1];exact hx);clear hx;go_wp2;go_ret;exact⟨aO (by rw[←HR.o];exact(kY n1.o T.o).symm),QG⟩
  rw[oE hx];have XS:QH (1≤C.su∧C.su≤6):=by unfold QH;rw[←H1.o.2.1];exact hx
  clear hx;go_wp2_with fail;refine(ft kd 1 3 _).mono ?_;rintro e w9 ⟨rfl,rfl⟩;by_cases hx:1≤kd∧kd≤3
  case neg =>
   rw[vd hx];have T:QH (Two C):=Or.inr (by rw[←H1.o.2.2.1];exact hx);clear hx;go_wp2;go_ret;exact⟨aO (by rw[←HR.o];exact(kY n1.o T.o).symm),QG⟩
  rw[oE hx];have n2:QH (¬Two C):=by unfold QH Two;simp only[not_or,Decidable.not_not];exact⟨XS.o,by rw[←H1.o.2.2.1];exact hx⟩
  have hk3:QH (kd=1∨kd=2∨kd=3):=by unfold QH;omega
  clear hx XS;go_wp2_with fail;refine(ft co 0 10 _).mono ?_;rintro e w9 ⟨rfl,rfl⟩;by_cases hx:0≤co∧co≤10
  case neg =>
   rw[vd hx];have T:QH (Thr C):=Or.inl (by rw[←H1.o.2.2.2.1];exact hx);clear hx;go_wp2;go_ret;exact⟨aO (by rw[←HR.o];exact(iv n1.o n2.o T.o).symm),QG⟩
  rw[oE hx];have Xco:QH (0≤C.co∧C.co≤10):=by unfold QH;rw[←H1.o.2.2.2.1];exact hx
  clear hx;go_wp2_with fail;refine(ft po 0 99 _).mono ?_;rintro e w9 ⟨rfl,rfl⟩;by_cases hx:0≤po∧po≤99
  case neg =>
   rw[vd hx];have T:QH (Thr C):=Or.inr (Or.inl (by rw[←H1.o.2.2.2.2.1];exact hx));clear hx;go_wp2;go_ret;exact⟨aO (by rw[←HR.o];exact(iv n1.o n2.o T.o).symm),QG⟩
  rw[oE hx];have Xpo:QH (0≤C.po∧C.po≤99):=by unfold QH;rw[←H1.o.2.2.2.2.1];exact hx
  clear hx;go_wp2_with fail;refine(ft he 0 99 _).mono ?_;rintro e w9 ⟨rfl,rfl⟩;by_cases hx:0≤he∧he≤99
  case neg =>
   rw[vd hx];have T:QH (Thr C):=Or.inr (Or.inr (by rw[←H1.o.2.2.2.2.2.1];exact hx));clear hx;go_wp2;go_ret;exact⟨aO (by rw[←HR.o];exact(iv n1.o n2.o T.o).symm),QG⟩
  rw[oE hx];have Xhe:QH (0≤C.he∧C.he≤99):=by unfold QH;rw[←H1.o.2.2.2.2.2.1];exact hx
  clear hx;have n3:QH (¬Thr C):=by unfold QH Thr;simp only[not_or,Decidable.not_not];exact⟨Xco.o,Xpo.o,Xhe.o⟩
  clear Xco Xpo Xhe;have F:QH (eK C=fOk kd po he):=by unfold QH;rw[Cq,←H1.o.2.2.1,←H1.o.2.2.2.2.1,←H1.o.2.2.2.2.2.1]
  rcases hk3.o with e | e | e
  ·subst e;have F':QH (eK C=fOk 1 po he):=F.o;by_cases h0:he=0
   ·subst h0;have T:QH (Fit C):=Or.inl (by rw[F'.o];simp[fOk]);clear F F';go_wp2;go_ret;exact⟨aO (by rw[←HR.o];exact(dQ n1.o n2.o n3.o T.o).symm),QG⟩
   have k0:=dj h0;have F1:QH (¬eK C=false):=(by unfold QH;rw[F'.o];simp[fOk,h0]);clear F F' h0;go_wp2_with fail;refine(ic tr _).mono ?_;rintro e w9 ⟨rfl,rfl⟩;rw[←HTR.o];cases ht:cM tr with
   | false =>
    have T:QH (Fit C):=Or.inr (Or.inl (by rw[←H1.o.2.2.2.2.2.2.1];exact ht));go_wp2;go_ret;exact⟨aO (by rw[←HR.o];exact(dQ n1.o n2.o n3.o T.o).symm),QG⟩
   | true =>
    have F2:QH (¬cM C.tr=false):=(by unfold QH;rw[←H1.o.2.2.2.2.2.2.1,ht];simp);clear ht
    have n4:QH (¬Fit C):=by
     unfold QH Fit;rintro (h | h | ⟨h,_⟩)
     ·exact F1.o h
     ·exact F2.o h
     ·rw[←H1.o.2.2.1] at h;cases h
    clear F1 F2;by_cases hl:4<ps.length
    ·have hl':(4:Int)<(ps.length:Int):=(by omega);have T:QH (4<C.ps.length):=(by unfold QH;rw[←H1.o.2.2.2.2.2.2.2.2];exact hl);clear hl;go_wp2;go_ret;exact⟨aO (by rw[←HR.o];exact(iw n1.o n2.o n3.o n4.o T.o).symm),QG⟩
    ·have hl':¬(4:Int)<(ps.length:Int):=(by omega);have T:QH (¬4<C.ps.length):=by unfold QH;rw[←H1.o.2.2.2.2.2.2.2.2];exact hl
     have HE:QH (dF 1 ps 0 res):=by
      unfold QH dF;rw[List.drop_zero,←HR.o,gW n1.o n2.o n3.o n4.o T.o,←H1.o.2.2.1,←H1.o.2.2.2.2.2.2.2.2]
     clear hl T n1 n2 n3 n4;go_wp2_with fail;go_loopw [4] (fun i wr=>∃ k:Nat,k≤ps.length∧i=.int .i64 k∧dF 1 ps k res∧CAt wr w.heap.size ⟨nm,su,1,co,po,he,tr,tk⟩ (.slice a ps.length c)∧w.grownBy wr none) (fun i _=>ps.length - (intOf i).toNat)
     case atStart=>exact⟨0,Q0 _,rfl,HE.o,aj w (ccs ⟨nm,su,1,co,po,he,tr,tk⟩ _) 111,QG⟩
     case round =>
      obtain⟨k,hk,rfl,R,CC,G⟩:=hrel;have HG:QH (w.grownBy wr none):=G;have HC:QH (CAt wr w.heap.size ⟨nm,su,1,co,po,he,tr,tk⟩ (.slice a ps.length c)):=CC;have HQ:QH (dF 1 ps k res):=R;clear G CC R HE;obtain⟨c0,c1,c2,c3,c4,c5,c6,c7,c8⟩:=HC.o.cells;simp only at c0 c1 c2 c3 c4 c5 c6 c7 c8
      rcases (show k=ps.length∨k<ps.length from by omega) with rfl | hlt
      ·have e:(0:Int)=res:=by
        have:=HQ.o;unfold dF at this;rw[Qbf] at this;exact this
       clear HQ hk hm;subst e;go_wp2;go_ret;exact⟨rfl,HG.o⟩
      ·have hlt':(k:Int)<(ps.length:Int):=(by omega);have hk0:(0:Int)≤(k:Int):=(by omega);have hw:=hm.wrap hlt;obtain⟨g,o,c',ev,PA⟩:=HP.o.part (by omega);injection ev with e1 _ e3;subst e1;subst e3;obtain⟨p,hp⟩:∃ p,ps[k]?=some p:=⟨_,Qg hlt⟩
       have HPW:QH p.wf:=HWP.o p (Qm hp);have D:=(PA k p hp).keep HG.o;have HX:QH (eH 1 (ps.drop k)=if ¬chk p=0 then chk p else if gz 1 p.wn=false then 8 else eH 1 (ps.drop (k+1))):=j8 hp;clear hp PA;obtain⟨p0,p1,p2,p3,p4,p5,p6,p7⟩:=p;have HD:QH (P8 wr g (o+k*8) ⟨p0,p1,p2,p3,p4,p5,p6,p7⟩):=D;obtain⟨d0,d1,d2,d3,d4,d5,d6,d7⟩:=D;simp only at d0 d1 d2 d3 d4 d5 d6 d7;by_cases hz:chk ⟨p0,p1,p2,p3,p4,p5,p6,p7⟩=0
       case neg =>
        have hz':(chk ⟨p0,p1,p2,p3,p4,p5,p6,p7⟩ == 0)=false:=dj hz
        have e:chk ⟨p0,p1,p2,p3,p4,p5,p6,p7⟩=res:=by
         have:=HX.o;rw[if_pos hz] at this;rw[←this];exact HQ.o
        have HE:QH (chk ⟨p0,p1,p2,p3,p4,p5,p6,p7⟩=res):=e;clear HX HQ hz e;go_wp2_with (first | (go_at_call 184;refine(eC ⟨p0,p1,p2,p3,p4,p5,p6,p7⟩ HPW.o _).mono ?_;rintro e w1 ⟨rfl,g1⟩;obtain⟨c0,c1,c2,c3,c4,c5,c6,c7,c8⟩:=(HC.o.keep g1).cells;simp only at c0 c1 c2 c3 c4 c5 c6 c7 c8;obtain⟨d0,d1,d2,d3,d4,d5,d6,d7⟩:=HD.o.keep g1;simp only at d0 d1 d2 d3 d4 d5 d6 d7) | fail)
        go_ret;exact⟨aO HE.o,aa HG.o g1⟩
       have hy:gz 1 p0=true:=rfl
       have HN:QH (dF 1 ps (k+1) res):=by
        have:=HX.o;rw[if_neg (by simpa using hz),if_neg (by simp only;rw[hy];simp)] at this;unfold QH dF;rw[←this];exact HQ.o
       clear HX HQ;go_wp2_with (first | (go_at_call 184;refine(eC ⟨p0,p1,p2,p3,p4,p5,p6,p7⟩ HPW.o _).mono ?_;rintro e w1 ⟨rfl,g1⟩;rw[hz];obtain⟨c0,c1,c2,c3,c4,c5,c6,c7,c8⟩:=(HC.o.keep g1).cells;simp only at c0 c1 c2 c3 c4 c5 c6 c7 c8;obtain⟨d0,d1,d2,d3,d4,d5,d6,d7⟩:=HD.o.keep g1;simp only at d0 d1 d2 d3 d4 d5 d6 d7) | fail)
       go_roundw
       case rel=>exact⟨k+1,hlt,(by first | rfl | (rw[hw];rfl)),HN.o,HC.o.keep g1,aa HG.o g1⟩
       case measure=>first | exact aD hlt | (rw[hw];exact aD hlt)
  ·subst e;have F':QH (eK C=fOk 2 po he):=F.o;by_cases h5:po=0
   case neg =>
    have k5:=dj h5;have T:QH (Fit C):=Or.inl (by rw[F'.o];simp[fOk,h5]);clear F F';clear h5;go_wp2;go_ret;exact⟨aO (by rw[←HR.o];exact(dQ n1.o n2.o n3.o T.o).symm),QG⟩
   by_cases h0:he=0
   case neg =>
    have k0:=dj h0;have T:QH (Fit C):=Or.inl (by rw[F'.o];simp[fOk,h0]);clear F F';clear h0;subst h5;go_wp2;go_ret;exact⟨aO (by rw[←HR.o];exact(dQ n1.o n2.o n3.o T.o).symm),QG⟩
   have F1:QH (¬eK C=false):=(by unfold QH;rw[F'.o];simp[fOk,h0,h5]);clear F F';subst h5;subst h0;go_wp2_with fail;refine(ic tr _).mono ?_;rintro e w9 ⟨rfl,rfl⟩;rw[←HTR.o];cases ht:cM tr with
   | false =>
    have T:QH (Fit C):=Or.inr (Or.inl (by rw[←H1.o.2.2.2.2.2.2.1];exact ht));go_wp2;go_ret;exact⟨aO (by rw[←HR.o];exact(dQ n1.o n2.o n3.o T.o).symm),QG⟩
   | true =>
    have F2:QH (¬cM C.tr=false):=(by unfold QH;rw[←H1.o.2.2.2.2.2.2.1,ht];simp);clear ht;cases htk:tk with
    | true =>
     have T:QH (Fit C):=Or.inr (Or.inr ⟨by rw[←H1.o.2.2.1],by rw[←H1.o.2.2.2.2.2.2.2.1];exact htk⟩);subst htk;go_wp2;go_ret;exact⟨aO (by rw[←HR.o];exact(dQ n1.o n2.o n3.o T.o).symm),QG⟩
    | false =>
     have n4:QH (¬Fit C):=by
      unfold QH Fit;rintro (h | h | ⟨_,h⟩)
      ·exact F1.o h
      ·exact F2.o h
      ·rw[←H1.o.2.2.2.2.2.2.2.1,htk] at h;cases h
     clear F1 F2;subst htk;by_cases hl:4<ps.length
     ·have hl':(4:Int)<(ps.length:Int):=(by omega);have T:QH (4<C.ps.length):=(by unfold QH;rw[←H1.o.2.2.2.2.2.2.2.2];exact hl);clear hl;go_wp2;go_ret;exact⟨aO (by rw[←HR.o];exact(iw n1.o n2.o n3.o n4.o T.o).symm),QG⟩
     ·have hl':¬(4:Int)<(ps.length:Int):=(by omega);have T:QH (¬4<C.ps.length):=by unfold QH;rw[←H1.o.2.2.2.2.2.2.2.2];exact hl
      have HE:QH (dF 2 ps 0 res):=by
       unfold QH dF;rw[List.drop_zero,←HR.o,gW n1.o n2.o n3.o n4.o T.o,←H1.o.2.2.1,←H1.o.2.2.2.2.2.2.2.2]
      clear hl T n1 n2 n3 n4;go_wp2_with fail;go_loopw [4] (fun i wr=>∃ k:Nat,k≤ps.length∧i=.int .i64 k∧dF 2 ps k res∧CAt wr w.heap.size ⟨nm,su,2,co,0,0,tr,false⟩ (.slice a ps.length c)∧w.grownBy wr none) (fun i _=>ps.length - (intOf i).toNat)
      case atStart=>exact⟨0,Q0 _,rfl,HE.o,aj w (ccs ⟨nm,su,2,co,0,0,tr,false⟩ _) 111,QG⟩
      case round =>
       obtain⟨k,hk,rfl,R,CC,G⟩:=hrel;have HG:QH (w.grownBy wr none):=G;have HC:QH (CAt wr w.heap.size ⟨nm,su,2,co,0,0,tr,false⟩ (.slice a ps.length c)):=CC;have HQ:QH (dF 2 ps k res):=R;clear G CC R HE;obtain⟨c0,c1,c2,c3,c4,c5,c6,c7,c8⟩:=HC.o.cells;simp only at c0 c1 c2 c3 c4 c5 c6 c7 c8
       rcases (show k=ps.length∨k<ps.length from by omega) with rfl | hlt
       ·have e:(0:Int)=res:=by
         have:=HQ.o;unfold dF at this;rw[Qbf] at this;exact this
        clear HQ hk hm;subst e;go_wp2;go_ret;exact⟨rfl,HG.o⟩
       ·have hlt':(k:Int)<(ps.length:Int):=(by omega);have hk0:(0:Int)≤(k:Int):=(by omega);have hw:=hm.wrap hlt;obtain⟨g,o,c',ev,PA⟩:=HP.o.part (by omega);injection ev with e1 _ e3;subst e1;subst e3;obtain⟨p,hp⟩:∃ p,ps[k]?=some p:=⟨_,Qg hlt⟩
        have HPW:QH p.wf:=HWP.o p (Qm hp);have D:=(PA k p hp).keep HG.o;have HX:QH (eH 2 (ps.drop k)=if ¬chk p=0 then chk p else if gz 2 p.wn=false then 8 else eH 2 (ps.drop (k+1))):=j8 hp;clear hp PA;obtain⟨p0,p1,p2,p3,p4,p5,p6,p7⟩:=p;have HD:QH (P8 wr g (o+k*8) ⟨p0,p1,p2,p3,p4,p5,p6,p7⟩):=D;obtain⟨d0,d1,d2,d3,d4,d5,d6,d7⟩:=D;simp only at d0 d1 d2 d3 d4 d5 d6 d7;by_cases hz:chk ⟨p0,p1,p2,p3,p4,p5,p6,p7⟩=0
        case neg =>
         have hz':(chk ⟨p0,p1,p2,p3,p4,p5,p6,p7⟩ == 0)=false:=dj hz
         have e:chk ⟨p0,p1,p2,p3,p4,p5,p6,p7⟩=res:=by
          have:=HX.o;rw[if_pos hz] at this;rw[←this];exact HQ.o
         have HE:QH (chk ⟨p0,p1,p2,p3,p4,p5,p6,p7⟩=res):=e;clear HX HQ hz e;go_wp2_with (first | (go_at_call 184;refine(eC ⟨p0,p1,p2,p3,p4,p5,p6,p7⟩ HPW.o _).mono ?_;rintro e w1 ⟨rfl,g1⟩;obtain⟨c0,c1,c2,c3,c4,c5,c6,c7,c8⟩:=(HC.o.keep g1).cells;simp only at c0 c1 c2 c3 c4 c5 c6 c7 c8;obtain⟨d0,d1,d2,d3,d4,d5,d6,d7⟩:=HD.o.keep g1;simp only at d0 d1 d2 d3 d4 d5 d6 d7) | fail)
         go_ret;exact⟨aO HE.o,aa HG.o g1⟩
        by_cases hv:p0=1
        ·have k0:(p0 == 1)=true:=(by simp[hv]);have k1:(p0 != 1)=false:=(by simp[hv]);have hy:gz 2 p0=true:=(by simp[gz,hv]);clear hv
         have HN:QH (dF 2 ps (k+1) res):=by
          have:=HX.o;rw[if_neg (by simpa using hz),if_neg (by simp only;rw[hy];simp)] at this;unfold QH dF;rw[←this];exact HQ.o
         clear HX HQ;go_wp2_with (first | (go_at_call 184;refine(eC ⟨p0,p1,p2,p3,p4,p5,p6,p7⟩ HPW.o _).mono ?_;rintro e w1 ⟨rfl,g1⟩;rw[hz];obtain⟨c0,c1,c2,c3,c4,c5,c6,c7,c8⟩:=(HC.o.keep g1).cells;simp only at c0 c1 c2 c3 c4 c5 c6 c7 c8;obtain⟨d0,d1,d2,d3,d4,d5,d6,d7⟩:=HD.o.keep g1;simp only at d0 d1 d2 d3 d4 d5 d6 d7) | fail)
         go_roundw
         case rel=>exact⟨k+1,hlt,(by first | rfl | (rw[hw];rfl)),HN.o,HC.o.keep g1,aa HG.o g1⟩
         case measure=>first | exact aD hlt | (rw[hw];exact aD hlt)
        ·have k0:=dj hv;have k1:(p0 != 1)=true:=(by simpa using hv);have hy:gz 2 p0=false:=(by simp[gz,hv]);clear hv
         have e:(8:Int)=res:=by
          have:=HX.o;rw[if_neg (by simpa using hz),if_pos (by simp only;exact hy)] at this;rw[←this];exact HQ.o
         clear HX HQ;subst e;go_wp2_with (first | (go_at_call 184;refine(eC ⟨p0,p1,p2,p3,p4,p5,p6,p7⟩ HPW.o _).mono ?_;rintro e w1 ⟨rfl,g1⟩;rw[hz];obtain⟨c0,c1,c2,c3,c4,c5,c6,c7,c8⟩:=(HC.o.keep g1).cells;simp only at c0 c1 c2 c3 c4 c5 c6 c7 c8;obtain⟨d0,d1,d2,d3,d4,d5,d6,d7⟩:=HD.o.keep g1;simp only at d0 d1 d2 d3 d4 d5 d6 d7) | fail)
         go_ret;exact⟨rfl,aa HG.o g1⟩
  ·subst e;have F':QH (eK C=fOk 3 po he):=F.o;by_cases h5:po=0
   case neg =>
    have k5:=dj h5;have T:QH (Fit C):=Or.inl (by rw[F'.o];simp[fOk,h5]);clear F F';clear h5;go_wp2;go_ret;exact⟨aO (by rw[←HR.o];exact(dQ n1.o n2.o n3.o T.o).symm),QG⟩
   by_cases h0:he=0
   case neg =>
    have k0:=dj h0;have T:QH (Fit C):=Or.inl (by rw[F'.o];simp[fOk,h0]);clear F F';clear h0;subst h5;go_wp2;go_ret;exact⟨aO (by rw[←HR.o];exact(dQ n1.o n2.o n3.o T.o).symm),QG⟩
   have F1:QH (¬eK C=false):=(by unfold QH;rw[F'.o];simp[fOk,h0,h5]);clear F F';subst h5;subst h0;go_wp2_with fail;refine(ic tr _).mono ?_;rintro e w9 ⟨rfl,rfl⟩;rw[←HTR.o];cases ht:cM tr with
   | false =>
    have T:QH (Fit C):=Or.inr (Or.inl (by rw[←H1.o.2.2.2.2.2.2.1];exact ht));go_wp2;go_ret;exact⟨aO (by rw[←HR.o];exact(dQ n1.o n2.o n3.o T.o).symm),QG⟩
   | true =>
    have F2:QH (¬cM C.tr=false):=(by unfold QH;rw[←H1.o.2.2.2.2.2.2.1,ht];simp);clear ht
    have n4:QH (¬Fit C):=by
     unfold QH Fit;rintro (h | h | ⟨h,_⟩)
     ·exact F1.o h
     ·exact F2.o h
     ·rw[←H1.o.2.2.1] at h;cases h
    clear F1 F2;by_cases hl:4<ps.length
    ·have hl':(4:Int)<(ps.length:Int):=(by omega);have T:QH (4<C.ps.length):=(by unfold QH;rw[←H1.o.2.2.2.2.2.2.2.2];exact hl);clear hl;go_wp2;go_ret;exact⟨aO (by rw[←HR.o];exact(iw n1.o n2.o n3.o n4.o T.o).symm),QG⟩
    ·have hl':¬(4:Int)<(ps.length:Int):=(by omega);have T:QH (¬4<C.ps.length):=by unfold QH;rw[←H1.o.2.2.2.2.2.2.2.2];exact hl
     have HE:QH (dF 3 ps 0 res):=by
      unfold QH dF;rw[List.drop_zero,←HR.o,gW n1.o n2.o n3.o n4.o T.o,←H1.o.2.2.1,←H1.o.2.2.2.2.2.2.2.2]
     clear hl T n1 n2 n3 n4;go_wp2_with fail;go_loopw [4] (fun i wr=>∃ k:Nat,k≤ps.length∧i=.int .i64 k∧dF 3 ps k res∧CAt wr w.heap.size ⟨nm,su,3,co,0,0,tr,tk⟩ (.slice a ps.length c)∧w.grownBy wr none) (fun i _=>ps.length - (intOf i).toNat)
     case atStart=>exact⟨0,Q0 _,rfl,HE.o,aj w (ccs ⟨nm,su,3,co,0,0,tr,tk⟩ _) 111,QG⟩
     case round =>
      obtain⟨k,hk,rfl,R,CC,G⟩:=hrel;have HG:QH (w.grownBy wr none):=G;have HC:QH (CAt wr w.heap.size ⟨nm,su,3,co,0,0,tr,tk⟩ (.slice a ps.length c)):=CC;have HQ:QH (dF 3 ps k res):=R;clear G CC R HE;obtain⟨c0,c1,c2,c3,c4,c5,c6,c7,c8⟩:=HC.o.cells;simp only at c0 c1 c2 c3 c4 c5 c6 c7 c8
      rcases (show k=ps.length∨k<ps.length from by omega) with rfl | hlt
      ·have e:(0:Int)=res:=by
        have:=HQ.o;unfold dF at this;rw[Qbf] at this;exact this
       clear HQ hk hm;subst e;go_wp2;go_ret;exact⟨rfl,HG.o⟩
      ·have hlt':(k:Int)<(ps.length:Int):=(by omega);have hk0:(0:Int)≤(k:Int):=(by omega);have hw:=hm.wrap hlt;obtain⟨g,o,c',ev,PA⟩:=HP.o.part (by omega);injection ev with e1 _ e3;subst e1;subst e3;obtain⟨p,hp⟩:∃ p,ps[k]?=some p:=⟨_,Qg hlt⟩
       have HPW:QH p.wf:=HWP.o p (Qm hp);have D:=(PA k p hp).keep HG.o;have HX:QH (eH 3 (ps.drop k)=if ¬chk p=0 then chk p else if gz 3 p.wn=false then 8 else eH 3 (ps.drop (k+1))):=j8 hp;clear hp PA;obtain⟨p0,p1,p2,p3,p4,p5,p6,p7⟩:=p;have HD:QH (P8 wr g (o+k*8) ⟨p0,p1,p2,p3,p4,p5,p6,p7⟩):=D;obtain⟨d0,d1,d2,d3,d4,d5,d6,d7⟩:=D;simp only at d0 d1 d2 d3 d4 d5 d6 d7;by_cases hz:chk ⟨p0,p1,p2,p3,p4,p5,p6,p7⟩=0
       case neg =>
        have hz':(chk ⟨p0,p1,p2,p3,p4,p5,p6,p7⟩ == 0)=false:=dj hz
        have e:chk ⟨p0,p1,p2,p3,p4,p5,p6,p7⟩=res:=by
         have:=HX.o;rw[if_pos hz] at this;rw[←this];exact HQ.o
        have HE:QH (chk ⟨p0,p1,p2,p3,p4,p5,p6,p7⟩=res):=e;clear HX HQ hz e;go_wp2_with (first | (go_at_call 184;refine(eC ⟨p0,p1,p2,p3,p4,p5,p6,p7⟩ HPW.o _).mono ?_;rintro e w1 ⟨rfl,g1⟩;obtain⟨c0,c1,c2,c3,c4,c5,c6,c7,c8⟩:=(HC.o.keep g1).cells;simp only at c0 c1 c2 c3 c4 c5 c6 c7 c8;obtain⟨d0,d1,d2,d3,d4,d5,d6,d7⟩:=HD.o.keep g1;simp only at d0 d1 d2 d3 d4 d5 d6 d7) | fail)
        go_ret;exact⟨aO HE.o,aa HG.o g1⟩
       by_cases hv:p0=4
       ·have k0:(p0 == 4)=true:=(by simp[hv]);have k1:(p0 != 4)=false:=(by simp[hv]);have hy:gz 3 p0=false:=(by simp[gz,hv]);clear hv
        have e:(8:Int)=res:=by
         have:=HX.o;rw[if_neg (by simpa using hz),if_pos (by simp only;exact hy)] at this;rw[←this];exact HQ.o
        clear HX HQ;subst e;go_wp2_with (first | (go_at_call 184;refine(eC ⟨p0,p1,p2,p3,p4,p5,p6,p7⟩ HPW.o _).mono ?_;rintro e w1 ⟨rfl,g1⟩;rw[hz];obtain⟨c0,c1,c2,c3,c4,c5,c6,c7,c8⟩:=(HC.o.keep g1).cells;simp only at c0 c1 c2 c3 c4 c5 c6 c7 c8;obtain⟨d0,d1,d2,d3,d4,d5,d6,d7⟩:=HD.o.keep g1;simp only at d0 d1 d2 d3 d4 d5 d6 d7) | fail)
        go_ret;exact⟨rfl,aa HG.o g1⟩
       ·have k0:=dj hv;have k1:(p0 != 4)=true:=(by simpa using hv);have hy:gz 3 p0=true:=(by simp[gz,hv]);clear hv
        have HN:QH (dF 3 ps (k+1) res):=by
         have:=HX.o;rw[if_neg (by simpa using hz),if_neg (by simp only;rw[hy];simp)] at this;unfold QH dF;rw[←this];exact HQ.o
        clear HX HQ;go_wp2_with (first | (go_at_call 184;refine(eC ⟨p0,p1,p2,p3,p4,p5,p6,p7⟩ HPW.o _).mono ?_;rintro e w1 ⟨rfl,g1⟩;rw[hz];obtain⟨c0,c1,c2,c3,c4,c5,c6,c7,c8⟩:=(HC.o.keep g1).cells;simp only at c0 c1 c2 c3 c4 c5 c6 c7 c8;obtain⟨d0,d1,d2,d3,d4,d5,d6,d7⟩:=HD.o.keep g1;simp only at d0 d1 d2 d3 d4 d5 d6 d7) | fail)
        go_roundw
        case rel=>exact⟨k+1,hlt,(by first | rfl | (rw[hw];rfl)),HN.o,HC.o.keep g1,aa HG.o g1⟩
        case measure=>first | exact aD hlt | (rw[hw];exact aD hlt)
