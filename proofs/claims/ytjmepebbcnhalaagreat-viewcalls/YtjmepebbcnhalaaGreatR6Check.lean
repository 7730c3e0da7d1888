/-

-/
import Derived.Test.YtjmepebbcnhalaaGreatV19
namespace Go.Proofs.YtjmepebbcnhalaaGreat
set_option maxRecDepth 100000
set_option maxHeartbeats 8000000
open Go.RowKit
variable {k a:Int}

theorem oy {b:Int} (h:a≤k∧k≤b):wB k a b=true:=by simp[wB,h]
theorem sO {b:Int} (h:¬(a≤k∧k≤b)):wB k a b=false:=by simp only[wB];by_cases x:a≤k <;> by_cases y:k≤b <;> simp[x,y];exact absurd ⟨x,y⟩ h
theorem sV (h:0≤k∧k≤255):IntKind.i64.wrap k=k:=by
 rw[IntKind.wrap_i64]
 omega
theorem tK (h:Hd) (v:Value) (ps:List Pt) (w:World) (hp:cD w v ps) (hm:ba ps.length) (hwf:(h.with ps).wf):Calls Tryz.prog 117 #[cv h v] w fun e w'=>e=.returned (.int .i64 (eI (h.with ps)))∧w.grownBy w' none:=by
 obtain⟨nm,su,kd,co,po,he,tr,tk⟩:=h
 have HP:Hid (cD w v ps):=hp
 have HWP:Hid (∀ p∈ps,p.wf):=hwf.ps
 have HTR:Hid (bY tr=decide (tr<256)):=nD tr hwf.tr.1 (by have:tr≤65535:=hwf.tr.2;omega)
 have ws:IntKind.i64.wrap su=su:=sV hwf.su
 have wk:IntKind.i64.wrap kd=kd:=sV hwf.kd
 obtain⟨a,c,rfl⟩:=hp.form
 clear hp hwf
 obtain⟨C,hC⟩:=Qe (Hd.with ⟨nm,su,kd,co,po,he,tr,tk⟩ ps)
 rw[←hC]
 have H1:Hid (nm=C.nm∧su=C.su∧kd=C.kd∧co=C.co∧po=C.po∧he=C.he∧tr=C.tr∧tk=C.tk∧ps=C.ps):=by rw[hC];exact⟨rfl,rfl,rfl,rfl,rfl,rfl,rfl,rfl,rfl⟩
 obtain⟨res,hres⟩:∃ res,eI C=res:=⟨_,rfl⟩
 have HR:Hid (eI C=res):=hres
 rw[hres]
 clear hC hres
 unfold cv
 simp only
 go_enter Tryz.func117,Tryz.ntmps117
 go_wp2_with fail
 refine(tB nm _).mono ?_
 rintro e w9 ⟨rfl,rfl⟩
 cases h1:aT nm.data.toList with
 | false =>
  go_wp2
  go_ret
  exact⟨aM (by rw[←HR.out];exact(qk (by rw[←H1.out.1];exact h1)).symm),QG⟩
 | true =>
  have n1:Hid (¬aT C.nm.data.toList=false):=by unfold Hid;rw[←H1.out.1,h1];simp
  clear h1
  go_wp2_with fail
  refine(eP su 1 6 _).mono ?_
  rintro e w9 ⟨rfl,rfl⟩
  by_cases hx:1≤su∧su≤6
  case neg =>
   rw[sO hx]
   have T:Hid (Two C):=Or.inl (by rw[←H1.out.2.1];exact hx)
   clear hx
   go_wp2
   go_ret
   exact⟨aM (by rw[←HR.out];exact(jY n1.out T.out).symm),QG⟩
  rw[oy hx]
  have XS:Hid (1≤C.su∧C.su≤6):=by unfold Hid;rw[←H1.out.2.1];exact hx
  clear hx
  go_wp2_with fail
  refine(eP kd 1 3 _).mono ?_
  rintro e w9 ⟨rfl,rfl⟩
  by_cases hx:1≤kd∧kd≤3
  case neg =>
   rw[sO hx]
   have T:Hid (Two C):=Or.inr (by rw[←H1.out.2.2.1];exact hx)
   clear hx
   go_wp2
   go_ret
   exact⟨aM (by rw[←HR.out];exact(jY n1.out T.out).symm),QG⟩
  rw[oy hx]
  have n2:Hid (¬Two C):=by unfold Hid Two;simp only[not_or,Decidable.not_not];exact⟨XS.out,by rw[←H1.out.2.2.1];exact hx⟩
  have hk3:Hid (kd=1∨kd=2∨kd=3):=by unfold Hid;omega
  clear hx XS
  go_wp2_with fail
  refine(eP co 0 10 _).mono ?_
  rintro e w9 ⟨rfl,rfl⟩
  by_cases hx:0≤co∧co≤10
  case neg =>
   rw[sO hx]
   have T:Hid (Thr C):=Or.inl (by rw[←H1.out.2.2.2.1];exact hx)
   clear hx
   go_wp2
   go_ret
   exact⟨aM (by rw[←HR.out];exact(ic n1.out n2.out T.out).symm),QG⟩
  rw[oy hx]
  have Xco:Hid (0≤C.co∧C.co≤10):=by unfold Hid;rw[←H1.out.2.2.2.1];exact hx
  clear hx
  go_wp2_with fail
  refine(eP po 0 99 _).mono ?_
  rintro e w9 ⟨rfl,rfl⟩
  by_cases hx:0≤po∧po≤99
  case neg =>
   rw[sO hx]
   have T:Hid (Thr C):=Or.inr (Or.inl (by rw[←H1.out.2.2.2.2.1];exact hx))
   clear hx
   go_wp2
   go_ret
   exact⟨aM (by rw[←HR.out];exact(ic n1.out n2.out T.out).symm),QG⟩
  rw[oy hx]
  have Xpo:Hid (0≤C.po∧C.po≤99):=by unfold Hid;rw[←H1.out.2.2.2.2.1];exact hx
  clear hx
  go_wp2_with fail
  refine(eP he 0 99 _).mono ?_
  rintro e w9 ⟨rfl,rfl⟩
  by_cases hx:0≤he∧he≤99
  case neg =>
   rw[sO hx]
   have T:Hid (Thr C):=Or.inr (Or.inr (by rw[←H1.out.2.2.2.2.2.1];exact hx))
   clear hx
   go_wp2
   go_ret
   exact⟨aM (by rw[←HR.out];exact(ic n1.out n2.out T.out).symm),QG⟩
  rw[oy hx]
  have Xhe:Hid (0≤C.he∧C.he≤99):=by unfold Hid;rw[←H1.out.2.2.2.2.2.1];exact hx
  clear hx
  have n3:Hid (¬Thr C):=by unfold Hid Thr;simp only[not_or,Decidable.not_not];exact⟨Xco.out,Xpo.out,Xhe.out⟩
  clear Xco Xpo Xhe
  have F:Hid (dQ C=fOk kd po he):=by unfold Hid;rw[AJ,←H1.out.2.2.1,←H1.out.2.2.2.2.1,←H1.out.2.2.2.2.2.1]
  rcases hk3.out with e | e | e
  ·subst e
   have F':Hid (dQ C=fOk 1 po he):=F.out
   by_cases h0:he=0
   ·subst h0
    have T:Hid (Fit C):=Or.inl (by rw[F'.out];simp[fOk])
    clear F F'
    go_wp2
    go_ret
    exact⟨aM (by rw[←HR.out];exact(dC n1.out n2.out n3.out T.out).symm),QG⟩
   have k0:=cP h0
   have F1:Hid (¬dQ C=false):=by unfold Hid;rw[F'.out];simp[fOk,h0]
   clear F F' h0
   go_wp2_with fail
   refine(gG tr _).mono ?_
   rintro e w9 ⟨rfl,rfl⟩
   rw[←HTR.out]
   cases ht:bY tr with
   | false =>
    have T:Hid (Fit C):=Or.inr (Or.inl (by rw[←H1.out.2.2.2.2.2.2.1];exact ht))
    go_wp2
    go_ret
    exact⟨aM (by rw[←HR.out];exact(dC n1.out n2.out n3.out T.out).symm),QG⟩
   | true =>
    have F2:Hid (¬bY C.tr=false):=by unfold Hid;rw[←H1.out.2.2.2.2.2.2.1,ht];simp
    clear ht
    have n4:Hid (¬Fit C):=by
     unfold Hid Fit
     rintro (h | h | ⟨h,_⟩)
     ·exact F1.out h
     ·exact F2.out h
     ·rw[←H1.out.2.2.1] at h;cases h
    clear F1 F2
    by_cases hl:4<ps.length
    ·have hl':(4:Int)<(ps.length:Int):=by omega
     have T:Hid (4<C.ps.length):=by unfold Hid;rw[←H1.out.2.2.2.2.2.2.2.2];exact hl
     clear hl
     go_wp2
     go_ret
     exact⟨aM (by rw[←HR.out];exact(gR n1.out n2.out n3.out n4.out T.out).symm),QG⟩
    ·have hl':¬(4:Int)<(ps.length:Int):=by omega
     have T:Hid (¬4<C.ps.length):=by unfold Hid;rw[←H1.out.2.2.2.2.2.2.2.2];exact hl
     have HE:Hid (dn 1 ps 0 res):=by
      unfold Hid dn
      rw[List.drop_zero,←HR.out,fZ n1.out n2.out n3.out n4.out T.out,←H1.out.2.2.1,←H1.out.2.2.2.2.2.2.2.2]
     clear hl T n1 n2 n3 n4
     go_wp2_with fail
     go_loopw [4] (fun i wr=>∃ k:Nat,k≤ps.length∧i=.int .i64 k∧dn 1 ps k res∧CAt wr w.heap.size ⟨nm,su,1,co,po,he,tr,tk⟩ (.slice a ps.length c)∧w.grownBy wr none) (fun i _=>ps.length - (intOf i).toNat)
     case atStart=>exact⟨0,Q0 _,rfl,HE.out,ak w (ccs ⟨nm,su,1,co,po,he,tr,tk⟩ _) 111,QG⟩
     case round =>
      obtain⟨k,hk,rfl,R,CC,G⟩:=hrel
      have HG:Hid (w.grownBy wr none):=G
      have HC:Hid (CAt wr w.heap.size ⟨nm,su,1,co,po,he,tr,tk⟩ (.slice a ps.length c)):=CC
      have HQ:Hid (dn 1 ps k res):=R
      clear G CC R HE
      obtain⟨c0,c1,c2,c3,c4,c5,c6,c7,c8⟩:=HC.out.cells
      simp only at c0 c1 c2 c3 c4 c5 c6 c7 c8
      rcases (show k=ps.length∨k<ps.length from by omega) with rfl | hlt
      ·have e:(0:Int)=res:=by
        have:=HQ.out
        unfold dn at this
        rw[List.drop_length] at this
        exact this
       clear HQ hk hm
       subst e
       go_wp2
       go_ret
       exact⟨rfl,HG.out⟩
      ·have hlt':(k:Int)<(ps.length:Int):=by omega
       have hk0:(0:Int)≤(k:Int):=by omega
       have hw:=hm.wrap hlt
       obtain⟨g,o,c',ev,PA⟩:=HP.out.part (by omega)
       injection ev with e1 _ e3
       subst e1
       subst e3
       obtain⟨p,hp⟩:∃ p,ps[k]?=some p:=⟨_,Qg hlt⟩
       have HPW:Hid p.wf:=HWP.out p (Qm hp)
       have D:=(PA k p hp).keep HG.out
       have HX:Hid (dS 1 (ps.drop k)=if ¬chk p=0 then chk p else if fH 1 p.wn=false then 8 else dS 1 (ps.drop (k+1))):=ir hp
       clear hp PA
       obtain⟨p0,p1,p2,p3,p4,p5,p6,p7⟩:=p
       have HD:Hid (P8 wr g (o+k*8) ⟨p0,p1,p2,p3,p4,p5,p6,p7⟩):=D
       obtain⟨d0,d1,d2,d3,d4,d5,d6,d7⟩:=D
       simp only at d0 d1 d2 d3 d4 d5 d6 d7
       by_cases hz:chk ⟨p0,p1,p2,p3,p4,p5,p6,p7⟩=0
       case neg =>
        have hz':(chk ⟨p0,p1,p2,p3,p4,p5,p6,p7⟩ == 0)=false:=cP hz
        have e:chk ⟨p0,p1,p2,p3,p4,p5,p6,p7⟩=res:=by
         have:=HX.out
         rw[if_pos hz] at this
         rw[←this]
         exact HQ.out
        have HE:Hid (chk ⟨p0,p1,p2,p3,p4,p5,p6,p7⟩=res):=e
        clear HX HQ hz e
        go_wp2_with (first | (go_at_call 184;refine(dP ⟨p0,p1,p2,p3,p4,p5,p6,p7⟩ HPW.out _).mono ?_;rintro e w1 ⟨rfl,g1⟩;obtain⟨c0,c1,c2,c3,c4,c5,c6,c7,c8⟩:=(HC.out.keep g1).cells;simp only at c0 c1 c2 c3 c4 c5 c6 c7 c8;obtain⟨d0,d1,d2,d3,d4,d5,d6,d7⟩:=HD.out.keep g1;simp only at d0 d1 d2 d3 d4 d5 d6 d7) | fail)
        go_ret
        exact⟨aM HE.out,ae HG.out g1⟩
       have hy:fH 1 p0=true:=rfl
       have HN:Hid (dn 1 ps (k+1) res):=by
        have:=HX.out
        rw[if_neg (by simpa using hz),if_neg (by simp only;rw[hy];simp)] at this
        unfold Hid dn
        rw[←this]
        exact HQ.out
       clear HX HQ
       go_wp2_with (first | (go_at_call 184;refine(dP ⟨p0,p1,p2,p3,p4,p5,p6,p7⟩ HPW.out _).mono ?_;rintro e w1 ⟨rfl,g1⟩;rw[hz];obtain⟨c0,c1,c2,c3,c4,c5,c6,c7,c8⟩:=(HC.out.keep g1).cells;simp only at c0 c1 c2 c3 c4 c5 c6 c7 c8;obtain⟨d0,d1,d2,d3,d4,d5,d6,d7⟩:=HD.out.keep g1;simp only at d0 d1 d2 d3 d4 d5 d6 d7) | fail)
       go_roundw
       case rel=>exact⟨k+1,hlt,(by first | rfl | (rw[hw];rfl)),HN.out,HC.out.keep g1,ae HG.out g1⟩
       case measure=>first | exact aA hlt | (rw[hw];exact aA hlt)
  ·subst e
   have F':Hid (dQ C=fOk 2 po he):=F.out
   by_cases h5:po=0
   case neg =>
    have k5:=cP h5
    have T:Hid (Fit C):=Or.inl (by rw[F'.out];simp[fOk,h5])
    clear F F'
    clear h5
    go_wp2
    go_ret
    exact⟨aM (by rw[←HR.out];exact(dC n1.out n2.out n3.out T.out).symm),QG⟩
   by_cases h0:he=0
   case neg =>
    have k0:=cP h0
    have T:Hid (Fit C):=Or.inl (by rw[F'.out];simp[fOk,h0])
    clear F F'
    clear h0
    subst h5
    go_wp2
    go_ret
    exact⟨aM (by rw[←HR.out];exact(dC n1.out n2.out n3.out T.out).symm),QG⟩
   have F1:Hid (¬dQ C=false):=by unfold Hid;rw[F'.out];simp[fOk,h0,h5]
   clear F F'
   subst h5
   subst h0
   go_wp2_with fail
   refine(gG tr _).mono ?_
   rintro e w9 ⟨rfl,rfl⟩
   rw[←HTR.out]
   cases ht:bY tr with
   | false =>
    have T:Hid (Fit C):=Or.inr (Or.inl (by rw[←H1.out.2.2.2.2.2.2.1];exact ht))
    go_wp2
    go_ret
    exact⟨aM (by rw[←HR.out];exact(dC n1.out n2.out n3.out T.out).symm),QG⟩
   | true =>
    have F2:Hid (¬bY C.tr=false):=by unfold Hid;rw[←H1.out.2.2.2.2.2.2.1,ht];simp
    clear ht
    cases htk:tk with
    | true =>
     have T:Hid (Fit C):=Or.inr (Or.inr ⟨by rw[←H1.out.2.2.1],by rw[←H1.out.2.2.2.2.2.2.2.1];exact htk⟩)
     subst htk
     go_wp2
     go_ret
     exact⟨aM (by rw[←HR.out];exact(dC n1.out n2.out n3.out T.out).symm),QG⟩
    | false =>
     have n4:Hid (¬Fit C):=by
      unfold Hid Fit
      rintro (h | h | ⟨_,h⟩)
      ·exact F1.out h
      ·exact F2.out h
      ·rw[←H1.out.2.2.2.2.2.2.2.1,htk] at h;cases h
     clear F1 F2
     subst htk
     by_cases hl:4<ps.length
     ·have hl':(4:Int)<(ps.length:Int):=by omega
      have T:Hid (4<C.ps.length):=by unfold Hid;rw[←H1.out.2.2.2.2.2.2.2.2];exact hl
      clear hl
      go_wp2
      go_ret
      exact⟨aM (by rw[←HR.out];exact(gR n1.out n2.out n3.out n4.out T.out).symm),QG⟩
     ·have hl':¬(4:Int)<(ps.length:Int):=by omega
      have T:Hid (¬4<C.ps.length):=by unfold Hid;rw[←H1.out.2.2.2.2.2.2.2.2];exact hl
      have HE:Hid (dn 2 ps 0 res):=by
       unfold Hid dn
       rw[List.drop_zero,←HR.out,fZ n1.out n2.out n3.out n4.out T.out,←H1.out.2.2.1,←H1.out.2.2.2.2.2.2.2.2]
      clear hl T n1 n2 n3 n4
      go_wp2_with fail
      go_loopw [4] (fun i wr=>∃ k:Nat,k≤ps.length∧i=.int .i64 k∧dn 2 ps k res∧CAt wr w.heap.size ⟨nm,su,2,co,0,0,tr,false⟩ (.slice a ps.length c)∧w.grownBy wr none) (fun i _=>ps.length - (intOf i).toNat)
      case atStart=>exact⟨0,Q0 _,rfl,HE.out,ak w (ccs ⟨nm,su,2,co,0,0,tr,false⟩ _) 111,QG⟩
      case round =>
       obtain⟨k,hk,rfl,R,CC,G⟩:=hrel
       have HG:Hid (w.grownBy wr none):=G
       have HC:Hid (CAt wr w.heap.size ⟨nm,su,2,co,0,0,tr,false⟩ (.slice a ps.length c)):=CC
       have HQ:Hid (dn 2 ps k res):=R
       clear G CC R HE
       obtain⟨c0,c1,c2,c3,c4,c5,c6,c7,c8⟩:=HC.out.cells
       simp only at c0 c1 c2 c3 c4 c5 c6 c7 c8
       rcases (show k=ps.length∨k<ps.length from by omega) with rfl | hlt
       ·have e:(0:Int)=res:=by
         have:=HQ.out
         unfold dn at this
         rw[List.drop_length] at this
         exact this
        clear HQ hk hm
        subst e
        go_wp2
        go_ret
        exact⟨rfl,HG.out⟩
       ·have hlt':(k:Int)<(ps.length:Int):=by omega
        have hk0:(0:Int)≤(k:Int):=by omega
        have hw:=hm.wrap hlt
        obtain⟨g,o,c',ev,PA⟩:=HP.out.part (by omega)
        injection ev with e1 _ e3
        subst e1
        subst e3
        obtain⟨p,hp⟩:∃ p,ps[k]?=some p:=⟨_,Qg hlt⟩
        have HPW:Hid p.wf:=HWP.out p (Qm hp)
        have D:=(PA k p hp).keep HG.out
        have HX:Hid (dS 2 (ps.drop k)=if ¬chk p=0 then chk p else if fH 2 p.wn=false then 8 else dS 2 (ps.drop (k+1))):=ir hp
        clear hp PA
        obtain⟨p0,p1,p2,p3,p4,p5,p6,p7⟩:=p
        have HD:Hid (P8 wr g (o+k*8) ⟨p0,p1,p2,p3,p4,p5,p6,p7⟩):=D
        obtain⟨d0,d1,d2,d3,d4,d5,d6,d7⟩:=D
        simp only at d0 d1 d2 d3 d4 d5 d6 d7
        by_cases hz:chk ⟨p0,p1,p2,p3,p4,p5,p6,p7⟩=0
        case neg =>
         have hz':(chk ⟨p0,p1,p2,p3,p4,p5,p6,p7⟩ == 0)=false:=cP hz
         have e:chk ⟨p0,p1,p2,p3,p4,p5,p6,p7⟩=res:=by
          have:=HX.out
          rw[if_pos hz] at this
          rw[←this]
          exact HQ.out
         have HE:Hid (chk ⟨p0,p1,p2,p3,p4,p5,p6,p7⟩=res):=e
         clear HX HQ hz e
         go_wp2_with (first | (go_at_call 184;refine(dP ⟨p0,p1,p2,p3,p4,p5,p6,p7⟩ HPW.out _).mono ?_;rintro e w1 ⟨rfl,g1⟩;obtain⟨c0,c1,c2,c3,c4,c5,c6,c7,c8⟩:=(HC.out.keep g1).cells;simp only at c0 c1 c2 c3 c4 c5 c6 c7 c8;obtain⟨d0,d1,d2,d3,d4,d5,d6,d7⟩:=HD.out.keep g1;simp only at d0 d1 d2 d3 d4 d5 d6 d7) | fail)
         go_ret
         exact⟨aM HE.out,ae HG.out g1⟩
        by_cases hv:p0=1
        ·have k0:(p0 == 1)=true:=by simp[hv]
         have k1:(p0 != 1)=false:=by simp[hv]
         have hy:fH 2 p0=true:=by simp[fH,hv]
         clear hv
         have HN:Hid (dn 2 ps (k+1) res):=by
          have:=HX.out
          rw[if_neg (by simpa using hz),if_neg (by simp only;rw[hy];simp)] at this
          unfold Hid dn
          rw[←this]
          exact HQ.out
         clear HX HQ
         go_wp2_with (first | (go_at_call 184;refine(dP ⟨p0,p1,p2,p3,p4,p5,p6,p7⟩ HPW.out _).mono ?_;rintro e w1 ⟨rfl,g1⟩;rw[hz];obtain⟨c0,c1,c2,c3,c4,c5,c6,c7,c8⟩:=(HC.out.keep g1).cells;simp only at c0 c1 c2 c3 c4 c5 c6 c7 c8;obtain⟨d0,d1,d2,d3,d4,d5,d6,d7⟩:=HD.out.keep g1;simp only at d0 d1 d2 d3 d4 d5 d6 d7) | fail)
         go_roundw
         case rel=>exact⟨k+1,hlt,(by first | rfl | (rw[hw];rfl)),HN.out,HC.out.keep g1,ae HG.out g1⟩
         case measure=>first | exact aA hlt | (rw[hw];exact aA hlt)
        ·have k0:=cP hv
         have k1:(p0 != 1)=true:=by simpa using hv
         have hy:fH 2 p0=false:=by simp[fH,hv]
         clear hv
         have e:(8:Int)=res:=by
          have:=HX.out
          rw[if_neg (by simpa using hz),if_pos (by simp only;exact hy)] at this
          rw[←this]
          exact HQ.out
         clear HX HQ
         subst e
         go_wp2_with (first | (go_at_call 184;refine(dP ⟨p0,p1,p2,p3,p4,p5,p6,p7⟩ HPW.out _).mono ?_;rintro e w1 ⟨rfl,g1⟩;rw[hz];obtain⟨c0,c1,c2,c3,c4,c5,c6,c7,c8⟩:=(HC.out.keep g1).cells;simp only at c0 c1 c2 c3 c4 c5 c6 c7 c8;obtain⟨d0,d1,d2,d3,d4,d5,d6,d7⟩:=HD.out.keep g1;simp only at d0 d1 d2 d3 d4 d5 d6 d7) | fail)
         go_ret
         exact⟨rfl,ae HG.out g1⟩
  ·subst e
   have F':Hid (dQ C=fOk 3 po he):=F.out
   by_cases h5:po=0
   case neg =>
    have k5:=cP h5
    have T:Hid (Fit C):=Or.inl (by rw[F'.out];simp[fOk,h5])
    clear F F'
    clear h5
    go_wp2
    go_ret
    exact⟨aM (by rw[←HR.out];exact(dC n1.out n2.out n3.out T.out).symm),QG⟩
   by_cases h0:he=0
   case neg =>
    have k0:=cP h0
    have T:Hid (Fit C):=Or.inl (by rw[F'.out];simp[fOk,h0])
    clear F F'
    clear h0
    subst h5
    go_wp2
    go_ret
    exact⟨aM (by rw[←HR.out];exact(dC n1.out n2.out n3.out T.out).symm),QG⟩
   have F1:Hid (¬dQ C=false):=by unfold Hid;rw[F'.out];simp[fOk,h0,h5]
   clear F F'
   subst h5
   subst h0
   go_wp2_with fail
   refine(gG tr _).mono ?_
   rintro e w9 ⟨rfl,rfl⟩
   rw[←HTR.out]
   cases ht:bY tr with
   | false =>
    have T:Hid (Fit C):=Or.inr (Or.inl (by rw[←H1.out.2.2.2.2.2.2.1];exact ht))
    go_wp2
    go_ret
    exact⟨aM (by rw[←HR.out];exact(dC n1.out n2.out n3.out T.out).symm),QG⟩
   | true =>
    have F2:Hid (¬bY C.tr=false):=by unfold Hid;rw[←H1.out.2.2.2.2.2.2.1,ht];simp
    clear ht
    have n4:Hid (¬Fit C):=by
     unfold Hid Fit
     rintro (h | h | ⟨h,_⟩)
     ·exact F1.out h
     ·exact F2.out h
     ·rw[←H1.out.2.2.1] at h;cases h
    clear F1 F2
    by_cases hl:4<ps.length
    ·have hl':(4:Int)<(ps.length:Int):=by omega
     have T:Hid (4<C.ps.length):=by unfold Hid;rw[←H1.out.2.2.2.2.2.2.2.2];exact hl
     clear hl
     go_wp2
     go_ret
     exact⟨aM (by rw[←HR.out];exact(gR n1.out n2.out n3.out n4.out T.out).symm),QG⟩
    ·have hl':¬(4:Int)<(ps.length:Int):=by omega
     have T:Hid (¬4<C.ps.length):=by unfold Hid;rw[←H1.out.2.2.2.2.2.2.2.2];exact hl
     have HE:Hid (dn 3 ps 0 res):=by
      unfold Hid dn
      rw[List.drop_zero,←HR.out,fZ n1.out n2.out n3.out n4.out T.out,←H1.out.2.2.1,←H1.out.2.2.2.2.2.2.2.2]
     clear hl T n1 n2 n3 n4
     go_wp2_with fail
     go_loopw [4] (fun i wr=>∃ k:Nat,k≤ps.length∧i=.int .i64 k∧dn 3 ps k res∧CAt wr w.heap.size ⟨nm,su,3,co,0,0,tr,tk⟩ (.slice a ps.length c)∧w.grownBy wr none) (fun i _=>ps.length - (intOf i).toNat)
     case atStart=>exact⟨0,Q0 _,rfl,HE.out,ak w (ccs ⟨nm,su,3,co,0,0,tr,tk⟩ _) 111,QG⟩
     case round =>
      obtain⟨k,hk,rfl,R,CC,G⟩:=hrel
      have HG:Hid (w.grownBy wr none):=G
      have HC:Hid (CAt wr w.heap.size ⟨nm,su,3,co,0,0,tr,tk⟩ (.slice a ps.length c)):=CC
      have HQ:Hid (dn 3 ps k res):=R
      clear G CC R HE
      obtain⟨c0,c1,c2,c3,c4,c5,c6,c7,c8⟩:=HC.out.cells
      simp only at c0 c1 c2 c3 c4 c5 c6 c7 c8
      rcases (show k=ps.length∨k<ps.length from by omega) with rfl | hlt
      ·have e:(0:Int)=res:=by
        have:=HQ.out
        unfold dn at this
        rw[List.drop_length] at this
        exact this
       clear HQ hk hm
       subst e
       go_wp2
       go_ret
       exact⟨rfl,HG.out⟩
      ·have hlt':(k:Int)<(ps.length:Int):=by omega
       have hk0:(0:Int)≤(k:Int):=by omega
       have hw:=hm.wrap hlt
       obtain⟨g,o,c',ev,PA⟩:=HP.out.part (by omega)
       injection ev with e1 _ e3
       subst e1
       subst e3
       obtain⟨p,hp⟩:∃ p,ps[k]?=some p:=⟨_,Qg hlt⟩
       have HPW:Hid p.wf:=HWP.out p (Qm hp)
       have D:=(PA k p hp).keep HG.out
       have HX:Hid (dS 3 (ps.drop k)=if ¬chk p=0 then chk p else if fH 3 p.wn=false then 8 else dS 3 (ps.drop (k+1))):=ir hp
       clear hp PA
       obtain⟨p0,p1,p2,p3,p4,p5,p6,p7⟩:=p
       have HD:Hid (P8 wr g (o+k*8) ⟨p0,p1,p2,p3,p4,p5,p6,p7⟩):=D
       obtain⟨d0,d1,d2,d3,d4,d5,d6,d7⟩:=D
       simp only at d0 d1 d2 d3 d4 d5 d6 d7
       by_cases hz:chk ⟨p0,p1,p2,p3,p4,p5,p6,p7⟩=0
       case neg =>
        have hz':(chk ⟨p0,p1,p2,p3,p4,p5,p6,p7⟩ == 0)=false:=cP hz
        have e:chk ⟨p0,p1,p2,p3,p4,p5,p6,p7⟩=res:=by
         have:=HX.out
         rw[if_pos hz] at this
         rw[←this]
         exact HQ.out
        have HE:Hid (chk ⟨p0,p1,p2,p3,p4,p5,p6,p7⟩=res):=e
        clear HX HQ hz e
        go_wp2_with (first | (go_at_call 184;refine(dP ⟨p0,p1,p2,p3,p4,p5,p6,p7⟩ HPW.out _).mono ?_;rintro e w1 ⟨rfl,g1⟩;obtain⟨c0,c1,c2,c3,c4,c5,c6,c7,c8⟩:=(HC.out.keep g1).cells;simp only at c0 c1 c2 c3 c4 c5 c6 c7 c8;obtain⟨d0,d1,d2,d3,d4,d5,d6,d7⟩:=HD.out.keep g1;simp only at d0 d1 d2 d3 d4 d5 d6 d7) | fail)
        go_ret
        exact⟨aM HE.out,ae HG.out g1⟩
       by_cases hv:p0=4
       ·have k0:(p0 == 4)=true:=by simp[hv]
        have k1:(p0 != 4)=false:=by simp[hv]
        have hy:fH 3 p0=false:=by simp[fH,hv]
        clear hv
        have e:(8:Int)=res:=by
         have:=HX.out
         rw[if_neg (by simpa using hz),if_pos (by simp only;exact hy)] at this
         rw[←this]
         exact HQ.out
        clear HX HQ
        subst e
        go_wp2_with (first | (go_at_call 184;refine(dP ⟨p0,p1,p2,p3,p4,p5,p6,p7⟩ HPW.out _).mono ?_;rintro e w1 ⟨rfl,g1⟩;rw[hz];obtain⟨c0,c1,c2,c3,c4,c5,c6,c7,c8⟩:=(HC.out.keep g1).cells;simp only at c0 c1 c2 c3 c4 c5 c6 c7 c8;obtain⟨d0,d1,d2,d3,d4,d5,d6,d7⟩:=HD.out.keep g1;simp only at d0 d1 d2 d3 d4 d5 d6 d7) | fail)
        go_ret
        exact⟨rfl,ae HG.out g1⟩
       ·have k0:=cP hv
        have k1:(p0 != 4)=true:=by simpa using hv
        have hy:fH 3 p0=true:=by simp[fH,hv]
        clear hv
        have HN:Hid (dn 3 ps (k+1) res):=by
         have:=HX.out
         rw[if_neg (by simpa using hz),if_neg (by simp only;rw[hy];simp)] at this
         unfold Hid dn
         rw[←this]
         exact HQ.out
        clear HX HQ
        go_wp2_with (first | (go_at_call 184;refine(dP ⟨p0,p1,p2,p3,p4,p5,p6,p7⟩ HPW.out _).mono ?_;rintro e w1 ⟨rfl,g1⟩;rw[hz];obtain⟨c0,c1,c2,c3,c4,c5,c6,c7,c8⟩:=(HC.out.keep g1).cells;simp only at c0 c1 c2 c3 c4 c5 c6 c7 c8;obtain⟨d0,d1,d2,d3,d4,d5,d6,d7⟩:=HD.out.keep g1;simp only at d0 d1 d2 d3 d4 d5 d6 d7) | fail)
        go_roundw
        case rel=>exact⟨k+1,hlt,(by first | rfl | (rw[hw];rfl)),HN.out,HC.out.keep g1,ae HG.out g1⟩
        case measure=>first | exact aA hlt | (rw[hw];exact aA hlt)
end Go.Proofs.YtjmepebbcnhalaaGreat
