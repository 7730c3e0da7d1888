import Derived.Test.YthfjgpjcepmnmaaGreatO47
import Derived.Test.YthfjgpjcepmnmaaGreatTgR
import Derived.Test.YthfjgpjcepmnmaaGreatO0
import Derived.Test.YthfjgpjcepmnmaaGreatO31
namespace Go.Proofs.YthfjgpjcepmnmaaGreat
set_option maxRecDepth 100000
set_option maxHeartbeats 8000000
open Go.RowKit Go.Shelf
def meR (t:Th):Int:=if iw t.m0 t.m1 t.m2 t.m3=true then 0 else 2
def vkR (p:Pl) (gs:List Ent) (ts:List Th):Int:=vkE (bT p ts.length) (gs.length:Int) (atC p gs) ts (dx (pfR p gs) (ts.take 2048)) meR
theorem CX (r n:Int) (cd:Int→Hd×List Pt) (ts:List Th) (F:List Fe):bgE r n cd ts F 1=lkE r n cd ts F []:=by
 unfold bgE
 by_cases h:lkE r n cd ts F []=0
 ·rw[if_pos h,if_pos (by decide),h]
 ·rw[if_neg h]
theorem tu (r n:Int) (cd:Int→Hd×List Pt) (ts:List Th) (F:List Fe):bgE r n cd ts F 1=bgE r n cd ts F 5:=by
 unfold bgE
 by_cases h:lkE r n cd ts F []=0
 ·rw[if_pos h,if_pos h,if_pos (by decide),if_pos (by decide)]
 ·rw[if_neg h,if_neg h]
theorem wC {p:Pl} {gs:List Ent} {ts:List Th} {q:Int} (h:bT p ts.length=q) (hq:q≠0):vkR p gs ts=q:=by
 unfold vkR
 have e:bgE (bT p ts.length) (gs.length:Int) (atC p gs) ts (dx (pfR p gs) (ts.take 2048)) 5=q:=by rw[EB (by rw[h];exact hq),h]
 rw[tU (by rw[e];exact hq),e]
theorem Bo {p:Pl} {gs:List Ent} {ts:List Th} {q:Int} (hl:ts.length≤2048) (h:bgE (bT p ts.length) (gs.length:Int) (atC p gs) ts (dx (pfR p gs) ts) 1=q) (hq:q≠0):vkR p gs ts=q:=by
 unfold vkR
 rw[List.take_of_length_le hl]
 rw[tu] at h
 rw[tU (by rw[h];exact hq),h]
theorem EN {p:Pl} {gs:List Ent} {ts:List Th} (hl:ts.length≤2048) (h:bgE (bT p ts.length) (gs.length:Int) (atC p gs) ts (dx (pfR p gs) ts) 1=0):vkR p gs ts=mkE meR ts:=by
 unfold vkR
 rw[List.take_of_length_le hl]
 rw[tu] at h
 rw[vw h]
theorem yc {p:Pl} {n:Nat} (h:¬n≤2048):bT p n=3:=if_pos (by omega)
theorem yK {p:Pl} {n:Nat} (h:n≤2048) (hs:p.shut=false):bT p n=2:=by unfold bT;rw[if_neg (by omega),hs];rfl
theorem oz {p:Pl} {n:Nat} (h:n≤2048) (hs:p.shut=true):bT p n=0:=by unfold bT;rw[if_neg (by omega),if_pos hs]
theorem rv {n:Int} {cd:Int→Hd×List Pt} {ts:List Th} {F:List Fe} (h:bd n cd ts F=none):bgE 0 n cd ts F 1=2:=by rw[CX,oR h]
theorem Bp {me:Th→Int} {ts:List Th} {k:Nat} {t:Th} (h:mkE me ts=mkE me (ts.drop k)) (ht:ts[k]?=some t):mkE me ts=mkE me (t :: ts.drop (k+1)):=by
 obtain⟨hk,e⟩:=List.getElem?_eq_some_iff.1 ht
 rw[h,List.drop_eq_getElem_cons hk,e]
theorem Dg {me:Th→Int} {ts:List Th} (h:mkE me ts=mkE me (ts.drop ts.length)):mkE me ts=0:=by rw[h,List.drop_length];rfl
def StP (w:World) (p:Pl) (gs:List Ent) (ts:List Th) (e:Ending) (w':World):Prop:=∃ v,e=.returned (.tuple #[v,.int .i64 (vkR p gs ts)])∧w.grownBy w' none∧(¬vkR p gs ts=0→v=.slice none 0 0)∧(vkR p gs ts=0→bO w' w.heap.size v (dx (pfR p gs) ts))
theorem StP.no {w w':World} {p:Pl} {gs:List Ent} {ts:List Th} {q:Int} (h:vkR p gs ts=q) (hq:q≠0) (g:w.grownBy w' none):StP w p gs ts (.returned (.tuple #[.slice none 0 0,.int .i64 q])) w':=⟨_,by rw[h],g,fun _=>rfl,fun z=>absurd (h.symm.trans z) hq⟩
theorem qH (ok:Nat→Prop) (r:Nat) (vr:Value) (p:Pl) (gs:List Ent) (v:Value) (ts:List Th) (w:World) (B:RD ok w r vr p gs) (A:thR.At w v ts) (hc:RgC (atC p gs)):Calls Tryz.prog 118 #[.pointer (some ⟨r,0,none⟩),v] w (StP w p gs ts):=by
 have C1:=bj r vr p w B.rj
 have C2:=fU r vr p w B.rj
 have HP:Hid (ts.length≤2048→Calls Tryz.prog 182 #[.pointer (some ⟨r,0,none⟩),v] w fun e w'=>∃ v' b,e=.returned (.tuple #[v',.bool b])∧w.grownBy w' none∧((b=true∧bO w' w.heap.size v' (dx (pfR p gs) ts)∧∀ t∈ts,ptR p gs t=0)∨(b=false∧v'=.slice none 0 0∧∃ t∈ts,¬ptR p gs t=0))):=fun q=>lQ ok r vr p gs v ts w B A q
 have HEf:Hid (∀ X vf,w.grownBy X none→feR.At X vf (dx (pfR p gs) ts)→Calls Tryz.prog 40 #[.pointer (some ⟨r,0,none⟩),v,vf,.int .i64 1] X (fh X (bT p ts.length) (gs.length:Int) (atC p gs) ts (dx (pfR p gs) ts) 1)):=fun X vf g F=>jv ok r vr p gs v vf ts _ 1 X (B.keep g) (A.keep g) F (ui hc ts).tr
 have HA:Hid (thR.At w v ts):=A
 obtain⟨pt,ct,rfl⟩:=A.form
 clear A B hc
 go_enter Tryz.func118,Tryz.ntmps118
 go_wp2_with fail
 refine C1.mono ?_
 rintro e1 w1 ⟨rfl,hw1⟩
 rw[hw1]
 clear hw1 w1 C1
 by_cases hl:ts.length≤2048
 ·have h2':decide ((2048:Int)<(ts.length:Int))=false:=decide_eq_false (by omega)
  have Hl:Hid (ts.length≤2048):=hl
  have CP:=HP.out hl
  obtain⟨sh,hsh⟩:∃ sh,sh=p.shut:=⟨_,rfl⟩
  have Hsh:Hid (sh=p.shut):=hsh
  rw[←hsh] at C2
  clear hsh hl
  go_wp2_with fail
  refine C2.mono ?_
  rintro e2 w2 ⟨rfl,hw2⟩
  rw[hw2]
  clear hw2 w2 C2
  cases sh with
  | false =>
   have HE:Hid (vkR p gs ts=2):=wC (yK Hl.out Hsh.out.symm) (by decide)
   clear CP
   go_wp2_with fail
   go_ret2
   exact StP.no HE.out (by decide) (aq _ _)
  | true =>
   have Hr:Hid (bT p ts.length=0):=oz Hl.out Hsh.out.symm
   go_wp2_with fail
   refine CP.mono ?_
   rintro e3 w3 ⟨vf,b,rfl,g3,h3⟩
   have HG3:Hid (w.grownBy w3 none):=g3
   clear CP g3
   rcases h3 with ⟨rfl,O,-⟩ | ⟨rfl,rfl,t,ht,hx⟩
   ·have CE:=HEf.out w3 vf HG3.out (ay.Own.at O)
    unfold fh at CE
    have HO:Hid (bO w3 w.heap.size vf (dx (pfR p gs) ts)):=O
    obtain⟨pf,cf,rfl⟩:=ay.Own.form O
    clear O
    obtain⟨x,hx⟩:∃ x,x=bgE (bT p ts.length) (gs.length:Int) (atC p gs) ts (dx (pfR p gs) ts) 1:=⟨_,rfl⟩
    have HX:Hid (x=bgE (bT p ts.length) (gs.length:Int) (atC p gs) ts (dx (pfR p gs) ts) 1):=hx
    rw[←hx] at CE
    clear hx
    go_wp2_with fail
    refine CE.mono ?_
    rintro e4 w4 ⟨pe,me,ce,rfl,g4,-⟩
    have HG4:Hid (w.grownBy w4 none∧bO w4 w.heap.size (.slice pf (dx (pfR p gs) ts).length cf) (dx (pfR p gs) ts)):=⟨aa HG3.out g4,aA HO.out g4⟩
    clear CE g4 HO HG3
    by_cases hx:x=0
    ·have ex:(x != 0)=false:=by rw[hx];rfl
     have HV:Hid (vkR p gs ts=mkE meR ts):=EN Hl.out (HX.out.symm.trans hx)
     clear hx
     go_wp2_with fail
     clear ex h2'
     go_loopw [11,12] (fun i _ wr=>∃ (k:Nat),k≤ts.length∧i=.int .i64 (k:Int)∧Hid (w4.grownBy wr none∧mkE meR ts=mkE meR (ts.drop k))) (fun i _ _=>ts.length - (intOf i).toNat)
     case atStart=>exact⟨0,Nat.zero_le _,rfl,aq _ _,rfl⟩
     case round =>
      obtain⟨k,hk,rfl,HI⟩:=hrel
      obtain⟨U,hU⟩:∃ U,U=wr:=⟨_,rfl⟩
      subst hU
      by_cases hlt:k<ts.length
      ·have k1:(k:Int)<(ts.length:Int):=Int.ofNat_lt.2 hlt
       have hwk:=aK (k:=k) (Nat.le_trans (Nat.le_of_lt hlt) (Nat.le_trans Hl.out (by decide)))
       have HM:Hid (ts.length - (intOf (.int .i64 ((k:Int)+1))).toNat<ts.length - (intOf (.int .i64 (k:Int))).toNat):=bF hlt
       obtain⟨gT,oT,cT,eT,rT⟩:=bG (HA.out.keep (aa HG4.out.1 HI.out.1)) hlt
       injection eT with eT eT2 eT3
       clear eT2 eT3
       subst eT
       obtain⟨t,ht⟩:∃ t,ts[k]?=some t:=⟨_,List.getElem?_eq_getElem hlt⟩
       rw[show ts[k]=t from (List.getElem?_eq_some_iff.1 ht).2] at rT
       have HR:Hid (U.rangeAt gT (oT+k*11) (thc t)):=rT
       have HD:Hid (mkE meR ts=mkE meR (t :: ts.drop (k+1))∧k<ts.length):=⟨Bp HI.out.2 ht,hlt⟩
       have HFin:∀ W,(¬mkE meR ts=0∧mkE meR ts=2)→U.grownBy W none→StP w p gs ts (.returned (.tuple #[.slice none 0 0,.int .i64 2])) W:=fun W q g=>StP.no (HV.out.trans q.2) (by decide) (aa (aa HG4.out.1 HI.out.1) g)
       have HFn:Hid (∀ W,(¬mkE meR ts=0∧mkE meR ts=2)→U.grownBy W none→StP w p gs ts (.returned (.tuple #[.slice none 0 0,.int .i64 2])) W):=HFin
       clear HFin rT hlt hk ht
       go_wp2_with fail
       by_cases hp:t.place=4
       ·have hpb:(t.place == 4)=true:=by rw[hp];rfl
        have Hp:Hid (t.place=4):=hp
        have HNo:Hid (iw t.m0 t.m1 t.m2 t.m3=false→¬mkE meR ts=0∧mkE meR ts=2):=fun q=>by
         have e:meR t=2:=by unfold meR;rw[q];rfl
         have e2:mkE meR ts=2:=by rw[HD.out.1,Aa Hp.out (by rw[e];decide),e]
         exact⟨by rw[e2];decide,e2⟩
        go_loopw [12] (fun m wr=>∃ (j:Nat),j≤4∧m=.int .i64 (j:Int)∧Hid (U.grownBy wr none∧MlR t.m0 t.m1 t.m2 t.m3 j)) (fun m _=>4 - (intOf m).toNat)
        case atStart=>exact⟨0,by decide,rfl,aq _ _,fun h=>absurd h (by decide),fun h=>absurd h (by decide),fun h=>absurd h (by decide),fun h=>absurd h (by decide)⟩
        case round =>
         obtain⟨j,hj,rfl,HJ⟩:=hrel
         obtain⟨Q,hQ⟩:∃ Q,Q=wr:=⟨_,rfl⟩
         subst hQ
         obtain⟨c0,c1,c2,c3,c4,c5,c6,c7,c8,c9,c10⟩:=bc (bn HR.out HJ.out.1)
         rw[hp] at c2
         rcases (show j=0∨j=1∨j=2∨j=3∨j=4 from by omega) with rfl | rfl | rfl | rfl | rfl
         ·have x0:=c5
          cases h0:okc t.m0 with
          | false =>
           have HE:Hid (¬mkE meR ts=0∧mkE meR ts=2):=HNo.out (by unfold iw;simp[h0])
           rcases pB h0 with l | l
           ·have l1:decide (t.m0<0)=true:=decide_eq_true l
            clear h0 l
            go_wp2_with fail
            go_ret2
            exact HFn.out _ HE.out HJ.out.1
           ·have l1:decide (t.m0<0)=false:=decide_eq_false (by omega)
            have l2:decide (99<t.m0)=true:=decide_eq_true l
            clear h0 l
            go_wp2_with fail
            go_ret2
            exact HFn.out _ HE.out HJ.out.1
          | true =>
           have HK2:Hid (MlR t.m0 t.m1 t.m2 t.m3 1):=by have q:=HJ.out.2;have r:=h0;exact⟨fun _=>r,fun h=>absurd h (by decide),fun h=>absurd h (by decide),fun h=>absurd h (by decide)⟩
           have l:=gi h0
           have l1:decide (t.m0<0)=false:=decide_eq_false (by omega)
           have l2:decide (99<t.m0)=false:=decide_eq_false (by omega)
           clear h0 l
           go_wp2_with fail
           go_roundw
           case rel=>exact⟨1,by decide,by first | rfl | go_num,HJ.out.1,HK2.out⟩
           case measure=>simp[intOf]
         ·have x0:=c6
          cases h0:okc t.m1 with
          | false =>
           have HE:Hid (¬mkE meR ts=0∧mkE meR ts=2):=HNo.out (by unfold iw;simp[h0])
           rcases pB h0 with l | l
           ·have l1:decide (t.m1<0)=true:=decide_eq_true l
            clear h0 l
            go_wp2_with fail
            go_ret2
            exact HFn.out _ HE.out HJ.out.1
           ·have l1:decide (t.m1<0)=false:=decide_eq_false (by omega)
            have l2:decide (99<t.m1)=true:=decide_eq_true l
            clear h0 l
            go_wp2_with fail
            go_ret2
            exact HFn.out _ HE.out HJ.out.1
          | true =>
           have HK2:Hid (MlR t.m0 t.m1 t.m2 t.m3 2):=by have q:=HJ.out.2;have r:=h0;exact⟨fun _=>q.1 (by decide),fun _=>r,fun h=>absurd h (by decide),fun h=>absurd h (by decide)⟩
           have l:=gi h0
           have l1:decide (t.m1<0)=false:=decide_eq_false (by omega)
           have l2:decide (99<t.m1)=false:=decide_eq_false (by omega)
           clear h0 l
           go_wp2_with fail
           go_roundw
           case rel=>exact⟨2,by decide,by first | rfl | go_num,HJ.out.1,HK2.out⟩
           case measure=>simp[intOf]
         ·have x0:=c7
          cases h0:okc t.m2 with
          | false =>
           have HE:Hid (¬mkE meR ts=0∧mkE meR ts=2):=HNo.out (by unfold iw;simp[h0])
           rcases pB h0 with l | l
           ·have l1:decide (t.m2<0)=true:=decide_eq_true l
            clear h0 l
            go_wp2_with fail
            go_ret2
            exact HFn.out _ HE.out HJ.out.1
           ·have l1:decide (t.m2<0)=false:=decide_eq_false (by omega)
            have l2:decide (99<t.m2)=true:=decide_eq_true l
            clear h0 l
            go_wp2_with fail
            go_ret2
            exact HFn.out _ HE.out HJ.out.1
          | true =>
           have HK2:Hid (MlR t.m0 t.m1 t.m2 t.m3 3):=by have q:=HJ.out.2;have r:=h0;exact⟨fun _=>q.1 (by decide),fun _=>q.2.1 (by decide),fun _=>r,fun h=>absurd h (by decide)⟩
           have l:=gi h0
           have l1:decide (t.m2<0)=false:=decide_eq_false (by omega)
           have l2:decide (99<t.m2)=false:=decide_eq_false (by omega)
           clear h0 l
           go_wp2_with fail
           go_roundw
           case rel=>exact⟨3,by decide,by first | rfl | go_num,HJ.out.1,HK2.out⟩
           case measure=>simp[intOf]
         ·have x0:=c8
          cases h0:okc t.m3 with
          | false =>
           have HE:Hid (¬mkE meR ts=0∧mkE meR ts=2):=HNo.out (by unfold iw;simp[h0])
           rcases pB h0 with l | l
           ·have l1:decide (t.m3<0)=true:=decide_eq_true l
            clear h0 l
            go_wp2_with fail
            go_ret2
            exact HFn.out _ HE.out HJ.out.1
           ·have l1:decide (t.m3<0)=false:=decide_eq_false (by omega)
            have l2:decide (99<t.m3)=true:=decide_eq_true l
            clear h0 l
            go_wp2_with fail
            go_ret2
            exact HFn.out _ HE.out HJ.out.1
          | true =>
           have HK2:Hid (MlR t.m0 t.m1 t.m2 t.m3 4):=by have q:=HJ.out.2;have r:=h0;exact⟨fun _=>q.1 (by decide),fun _=>q.2.1 (by decide),fun _=>q.2.2.1 (by decide),fun _=>r⟩
           have l:=gi h0
           have l1:decide (t.m3<0)=false:=decide_eq_false (by omega)
           have l2:decide (99<t.m3)=false:=decide_eq_false (by omega)
           clear h0 l
           go_wp2_with fail
           go_roundw
           case rel=>exact⟨4,by decide,by first | rfl | go_num,HJ.out.1,HK2.out⟩
           case measure=>simp[intOf]
         ·have HE:Hid (iw t.m0 t.m1 t.m2 t.m3=true):=by show _=_;have q:=HJ.out.2;unfold iw;simp[q.1 (by decide),q.2.1 (by decide),q.2.2.1 (by decide),q.2.2.2 (by decide)]
          clear c0 c1 c2 c3 c4 c5 c6 c7 c8 c9 c10
          have HN:Hid (mkE meR ts=mkE meR (ts.drop (k+1))):=by
           show _=_
           rw[HD.out.1,pC]
           rintro⟨a,b⟩
           exact b (by unfold meR;rw[if_pos (HE.out)])
          go_wp2_with fail
          go_roundw
          case rel=>exact⟨k+1,HD.out.2,by first | rfl | (rw[hwk];rfl) | go_num,aa HI.out.1 (HJ.out.1),HN.out⟩
          case measure=>first | exact HM.out | (rw[hwk];exact HM.out)
       ·have hpb:(t.place == 4)=false:=by simpa using hp
        have Hp:Hid (¬t.place=4):=hp
        clear hp
        go_loopw [12] (fun m wr=>∃ (j:Nat),j≤4∧m=.int .i64 (j:Int)∧Hid (U.grownBy wr none)) (fun m _=>4 - (intOf m).toNat)
        case atStart=>exact⟨0,by decide,rfl,aq _ _⟩
        case round =>
         obtain⟨j,hj,rfl,HJ⟩:=hrel
         obtain⟨Q,hQ⟩:∃ Q,Q=wr:=⟨_,rfl⟩
         subst hQ
         obtain⟨c0,c1,c2,-⟩:=bc (bn HR.out HJ.out)
         by_cases hj4:j<4
         ·have j1:(j:Int)<4:=by omega
          have hwj:=aK (k:=j) (by omega)
          have HMj:Hid (4 - (intOf (.int .i64 ((j:Int)+1))).toNat<4 - (intOf (.int .i64 (j:Int))).toNat):=bF hj4
          have Hj:Hid (j<4):=hj4
          clear hj hj4
          go_wp2_with fail
          go_roundw
          case rel=>exact⟨j+1,Hj.out,by first | rfl | (rw[hwj];rfl) | go_num,HJ.out⟩
          case measure=>first | exact HMj.out | (rw[hwj];exact HMj.out)
         ·have j1:¬(j:Int)<4:=by omega
          clear hj hj4 c0 c1 c2
          have HN:Hid (mkE meR ts=mkE meR (ts.drop (k+1))):=by
           show _=_
           rw[HD.out.1,pC]
           rintro⟨a,b⟩
           exact b (by unfold meR;rw[if_pos (absurd a Hp.out)])
          go_wp2_with fail
          go_roundw
          case rel=>exact⟨k+1,HD.out.2,by first | rfl | (rw[hwk];rfl) | go_num,aa HI.out.1 (HJ.out),HN.out⟩
          case measure=>first | exact HM.out | (rw[hwk];exact HM.out)
      ·obtain rfl:k=ts.length:=Nat.le_antisymm hk (Nat.le_of_not_lt hlt)
       have k1:¬(ts.length:Int)<(ts.length:Int):=Int.lt_irrefl _
       have HZ:Hid (vkR p gs ts=0):=HV.out.trans (Dg HI.out.2)
       clear hk hlt
       go_wp2_with fail
       go_ret2
       exact⟨.slice pf (dx (pfR p gs) ts).length cf,by rw[HZ.out];rfl,aa HG4.out.1 HI.out.1,fun z=>absurd HZ.out z,fun _=>aA HG4.out.2 HI.out.1⟩
    ·have ex:(x != 0)=true:=by simpa using hx
     have HE:Hid (vkR p gs ts=x∧¬x=0):=⟨Bo Hl.out HX.out.symm hx,hx⟩
     clear hx
     go_wp2_with fail
     go_ret2
     exact StP.no HE.out.1 HE.out.2 HG4.out.1
   ·have HE:Hid (vkR p gs ts=2):=Bo Hl.out (by rw[Hr.out];exact rv (CJ Hsh.out.symm ht hx)) (by decide)
    clear ht hx
    go_wp2_with fail
    go_ret2
    exact StP.no HE.out (by decide) HG3.out
 ·have h2':decide ((2048:Int)<(ts.length:Int))=true:=decide_eq_true (by omega)
  have HE:Hid (vkR p gs ts=3):=wC (yc hl) (by decide)
  clear hl C2
  go_wp2_with fail
  go_ret2
  exact StP.no HE.out (by decide) (aq _ _)
set_option maxHeartbeats 4000000
def mfR (p:Pl) (f:Fe) (t:Th):Fe:=if iw t.m0 t.m1 t.m2 t.m3=true then so p f t.m0 t.m1 t.m2 t.m3 else Fe.none
theorem nK (ok:Nat→Prop) (r:Nat) (vr:Value) (p:Pl) (gs:List Ent) (vt vf:Value) (ts:List Th) (fs:List Fe) (w:World) (B0:RD ok w r vr p gs) (A:thR.At w vt ts) (B:feR.At w vf fs) (hl:ts.length=fs.length) (h2:ts.length≤2048) (hg:RgL fs) (ho:∀ t∈ts,t.place=4→iw t.m0 t.m1 t.m2 t.m3=true):Calls Tryz.prog 119 #[.pointer (some ⟨r,0,none⟩),vt,vf] w fun e w'=>∃ v',e=.returned v'∧bO w' w.heap.size v' (qw (mfR p) ts fs)∧w.grownBy w' none:=by
 obtain⟨i0,hi,hz0,hz1,hz2⟩:=info_parts Tryz.linfoF
 obtain⟨pt,ct,rfl⟩:=A.form
 obtain⟨pf,cf,rfl⟩:=B.form
 obtain⟨h,hh⟩:∃ h:Nat→Fe,h=fun i=>yM (mfR p) (ts.getD i Th.none) (fs.getD i Fe.none):=⟨_,rfl⟩
 have Hh:Hid (h=fun i=>yM (mfR p) (ts.getD i Th.none) (fs.getD i Fe.none)):=hh
 have HA:Hid (thR.At w (.slice pt ts.length ct) ts):=A
 have HB:Hid (feR.At w (.slice pf fs.length cf) fs):=B
 have HP:Hid (∀ X f (t:Th),w.grownBy X none→t∈ts→t.place=4→f∈fs→Calls Tryz.prog 183 #[.pointer (some ⟨r,0,none⟩),fev f,.agg #[.int .i64 t.m0,.int .i64 t.m1,.int .i64 t.m2,.int .i64 t.m3]] X fun e w'=>e=.returned (.tuple #[fev (mfR p f t),.int .i64 0])∧X.grownBy w' none):=fun X f t g q1 q2 q3=>by
  have z:=sE r vr p f t.m0 t.m1 t.m2 t.m3 X (B0.rj.keep g) B0.mkd (ho t q1 q2) (hg f q3).2
  unfold mfR
  rw[if_pos (ho t q1 q2)]
  exact z
 have Hl:Hid (ts.length=fs.length∧ts.length≤2048):=⟨hl,h2⟩
 have Hbb:Hid (i0.bytes*fs.length≤281474976710656):=by show i0.bytes*fs.length≤_;rw[hz2];omega
 have Hbm:Hid (fs.length≤maxLen):=by show fs.length≤maxLen;unfold maxLen;omega
 clear A B B0 hl h2 hh hg ho
 go_enter Tryz.func119,Tryz.ntmps119
 go_wp2_with (at_make;refine wpList_make_full _ rfl _ _ 24 rfl w.heap.size 65 i0 _ 5 Tryz.underlying24 hi hz0 hz1 .i64 .i64 _ _ fs.length rfl rfl rfl rfl Hbb.out Hbm.out (Nat.le_refl _) ?_;intro V o1 gv;have HF0:Hid (bO V w.heap.size (.slice (some ⟨w.heap.size,0,none⟩) fs.length fs.length) (List.replicate fs.length Fe.none)):=sX o1;have HGV:Hid (w.grownBy V none):=gv;clear o1 gv)
 obtain⟨g0,h0⟩:∃ g0,g0=w.heap.size:=⟨_,rfl⟩
 have Hg0:Hid (g0=w.heap.size):=h0
 simp only[←h0] at HF0 ⊢
 clear h0 hi hz0 hz1 hz2
 go_loopw [8] (fun i wr=>∃ k:Nat,k≤fs.length∧i=.int .i64 (k:Int)∧bO wr g0 (.slice (some ⟨g0,0,none⟩) fs.length fs.length) (dg h fs.length k)∧w.grownBy wr none) (fun i _=>fs.length - (intOf i).toNat)
 case atStart=>exact⟨0,Nat.zero_le _,rfl,by rw[lG];exact HF0.out,HGV.out⟩
 case round =>
  obtain⟨k,hk,rfl,O,G⟩:=hrel
  obtain⟨U,hU⟩:∃ U,U=wr:=⟨_,rfl⟩
  subst hU
  have HG:Hid (w.grownBy U none):=G
  by_cases hlf:k<fs.length
  ·have hlt:k<ts.length:=by have:=Hl.out.1;omega
   obtain⟨g,off,cap,e1,R⟩:=bG HA.out hlt
   cases e1
   obtain⟨gf,fof,fcap,e2,RF⟩:=dG HB.out hlf
   cases e2
   obtain⟨t,ht⟩:∃ t,t=ts[k]:=⟨_,rfl⟩
   rw[←ht] at R
   obtain⟨f,hf⟩:∃ f,f=fs[k]:=⟨_,rfl⟩
   rw[←hf] at RF
   have HT:Hid (h k=yM (mfR p) t f):=by show _=_;rw[Hh.out,ht,hf];show yM (mfR p) (ts.getD k Th.none) (fs.getD k Fe.none)=_;rw[aw hlt,aw hlf]
   have Hmem:Hid (t∈ts∧f∈fs):=⟨by rw[ht];exact List.getElem_mem hlt,by rw[hf];exact List.getElem_mem hlf⟩
   have Hgf:Hid (some gf≠some g0∧some g≠some g0):=by
    have q:=wx (cC RF).1
    have q2:=wx (bc R).1
    have:=Hg0.out
    exact⟨by intro e;injection e with e;omega,by intro e;injection e with e;omega⟩
   obtain⟨c0,c1,c2,c3,c4,c5,c6,c7,c8,c9,c10⟩:=bc (bn R G)
   have HOY:Hid (bO U g0 (.slice (some ⟨g0,0,none⟩) fs.length fs.length) (dg h fs.length k)):=O
   have HRF:Hid (U.rangeAt gf (fof+k*5) (fec f)):=bn RF G
   have hlt':(k:Int)<ts.length:=Int.ofNat_lt.2 hlt
   have hlf':(k:Int)<fs.length:=Int.ofNat_lt.2 hlf
   have hwk:=aK (k:=k) (Nat.le_trans (Nat.le_of_lt hlt) (Nat.le_trans Hl.out.2 (by decide)))
   have Hlt:Hid (k<ts.length∧k<fs.length):=⟨hlt,hlf⟩
   have HM:Hid (fs.length - (intOf (.int .i64 ((k:Int)+1))).toNat<fs.length - (intOf (.int .i64 (k:Int))).toNat):=bF hlf
   clear O G R RF ht hf hlt hk hlf
   by_cases hp:t.place=4
   ·have hpb:(t.place == 4)=true:=by rw[hp];rfl
    have HF:Hid (h k=mfR p f t):=HT.out.trans (if_pos hp)
    have C0:=fun X q=>HP.out X f t q Hmem.out.1 hp Hmem.out.2
    obtain⟨f2,hf2⟩:∃ f2,f2=mfR p f t:=⟨_,rfl⟩
    have HC:Hid (∀ X,U.grownBy X none→Calls Tryz.prog 183 #[.pointer (some ⟨r,0,none⟩),.agg #[.int .i64 f.ho,.int .u8 f.su,.int .u16 f.tr,.int .i64 f.po,.int .i64 f.he],.agg #[.int .i64 t.m0,.int .i64 t.m1,.int .i64 t.m2,.int .i64 t.m3]] X fun e w'=>e=.returned (.tuple #[.agg #[.int .i64 f2.ho,.int .u8 f2.su,.int .u16 f2.tr,.int .i64 f2.po,.int .i64 f2.he],.int .i64 0])∧X.grownBy w' none):=fun X q=>by
     have:=C0 X (aa HG.out q)
     rw[←hf2] at this
     exact this
    rw[←hf2] at HF
    obtain⟨f0,f1,f2',f3,f4⟩:=cC HRF.out
    have hnf:=Hgf.out.1
    have hng:=Hgf.out.2
    clear hp hf2 HT C0
    go_upto_region 6 with fail
    refine wp_region_held_drew (S:=fun w'=>U.grownBy w' (some g0)) (by kernel_rfl) (de _ _) (fun hHeld=>?_)
    refine QZ 0 rfl ?_
    go_frame
    refine QZ 1 rfl ?_
    go_frame
    refine QZ 2 rfl ?_
    go_frame
    refine QZ 3 rfl ?_
    go_frame
    refine QZ 4 rfl ?_
    go_frame
    refine QZ 5 rfl ?_
    go_frame
    refine QT 6 rfl (by intro w0 hSw;have f0:=hSw.cell f0 hnf;have f1:=hSw.cell f1 hnf;have f2':=hSw.cell f2' hnf;have f3:=hSw.cell f3 hnf;have f4:=hSw.cell f4 hnf;go_simp;try with_reducible rfl) ?_
    go_frame
    refine QZ 7 rfl ?_
    go_frame
    refine QZ 8 rfl ?_
    go_frame
    refine QZ 9 rfl ?_
    go_frame
    refine QZ 10 rfl ?_
    go_frame
    refine QT 11 rfl (by intro w0 hSw;have c5:=hSw.cell c5 hng;have c6:=hSw.cell c6 hng;have c7:=hSw.cell c7 hng;have c8:=hSw.cell c8 hng;go_simp;try with_reducible rfl) ?_
    go_frame
    clear f0 f1 f2' f3 f4 c0 c1 c2 c3 c4 c5 c6 c7 c8 c9 c10 hng hnf
    refine QR 12 rfl (fun K hK=>?_)
    go_simp
    go_at_call 183
    refine(HC.out _ (ag _)).mono ?_
    rintro e2 w2 ⟨rfl,g2⟩
    have HG2:Hid (U.grownBy w2 none):=aa (ag _) g2
    clear g2
    refine hK.out _ _ (eJ HG2.out _) (fun hHeld2=>?_)
    clear hK K
    (try go_frame)
    refine QZ 13 rfl ?_
    go_frame
    refine QZ 14 rfl ?_
    go_frame
    refine QZ 15 rfl ?_
    go_frame
    have HO2:Hid (bO w2 g0 (.slice (some ⟨g0,0,none⟩) fs.length fs.length) (dg h fs.length k)):=aA HOY.out HG2.out
    obtain⟨u0,u1,u2,u3,u4,y0,y1,y2,y3,y4,q0,q1,q2,q3,q4⟩:=vh (jJ HO2.out (iU h _ k) Hlt.out.2)
    obtain⟨Z,hZ⟩:∃ Z,Z=((((w2.setCell ⟨g0,k*5,none⟩ (.int .i64 f2.ho)).setCell ⟨g0,k*5+1,none⟩ (.int .u8 f2.su)).setCell ⟨g0,k*5+2,none⟩ (.int .u16 f2.tr)).setCell ⟨g0,k*5+3,none⟩ (.int .i64 f2.po)).setCell ⟨g0,k*5+4,none⟩ (.int .i64 f2.he):=⟨_,rfl⟩
    have q:=mq HO2.out (iU h _ k) Hlt.out.2 f2
    rw[show w2.setCells g0 (k*5) (fec f2)=Z from by rw[hZ];rfl] at q
    have HGZ:Hid (w2.grownBy Z (some g0)):=q.2
    have HQ:Hid (bO Z g0 (.slice (some ⟨g0,0,none⟩) fs.length fs.length) (dg h fs.length (k+1))∧w.grownBy Z none):=⟨by rw[←oD HF.out];exact q.1,am (aa HG.out HG2.out) q.2 (fun y e=>by cases e;rw[Hg0.out];exact Nat.le_refl _)⟩
    clear q
    refine QZ 16 rfl ?_
    go_frame
    refine QR 17 rfl (fun K9 hK=>?_)
    go_simp
    rw[←hZ]
    refine hK.out _ _ (aa (eJ HG2.out _) HGZ.out) (fun hHeld3=>?_)
    clear hK K9
    (try go_frame)
    refine QD ?_
    clear hZ y0 y1 y2 y3 y4 q0 q1 q2 q3 q4
    go_wp2_with fail
    go_roundw
    case rel=>exact⟨k+1,Hlt.out.2,by first | rfl | (rw[hwk];rfl) | go_num,HQ.out⟩
    case measure=>first | exact HM.out | (rw[hwk];exact HM.out)
   ·have hpb:(t.place == 4)=false:=by simpa using hp
    have HF:Hid (h k=Fe.none):=HT.out.trans (if_neg hp)
    have HQ:Hid (bO U g0 (.slice (some ⟨g0,0,none⟩) fs.length fs.length) (dg h fs.length (k+1))∧w.grownBy U none):=⟨by rw[mR HF.out];exact HOY.out,HG.out⟩
    clear hp HT HF
    go_wp2_with fail
    go_roundw
    case rel=>exact⟨k+1,Hlt.out.2,by first | rfl | (rw[hwk];rfl) | go_num,HQ.out⟩
    case measure=>first | exact HM.out | (rw[hwk];exact HM.out)
  ·obtain rfl:k=fs.length:=Nat.le_antisymm hk (Nat.le_of_not_lt hlf)
   have HF:Hid (bO U w.heap.size (.slice (some ⟨g0,0,none⟩) fs.length fs.length) (qw (mfR p) ts fs)∧w.grownBy U none):=⟨by rw[←Aq (mfR p) ts fs Hl.out.1,←Hh.out,←Hg0.out];exact O,G⟩
   clear O G hk hlf
   go_wp2_with fail
   go_ret
   exact⟨_,rfl,HF.out⟩
def ahL (ts:List Th) (a b:Sd):Bool:=ahB (fB ts a.th) (fB ts b.th) a.pl b.pl
def InT (ts:List Th) (a:Sd):Prop:=∃ (z:Nat) (t:Th),a.th=(z:Int)+1∧ts[z]?=some t
theorem pX {ts:List Th} {a b:Sd}:ahL ts a b=true↔fB ts a.th<fB ts b.th∨fB ts a.th=fB ts b.th∧a.pl<b.pl:=by
 unfold ahL ahB
 simp[Bool.or_eq_true,Bool.and_eq_true,decide_eq_true_eq]
theorem lZ (ts:List Th) (a:Sd):ahL ts a a=false:=Bool.eq_false_iff.2 fun h=>by rw[pX] at h;omega
theorem ot {ts:List Th} {a b c:Sd} (h1:ahL ts a b=true) (h2:ahL ts b c=true):ahL ts a c=true:=by rw[pX] at *;omega
theorem mB (vt:Value) (ts:List Th) (a b:Sd) (w:World) (A:thR.At w vt ts) (ha:InT ts a) (hb:InT ts b) (hl:ts.length≤2048):Calls Tryz.prog 165 #[vt,sdv a,sdv b] w fun e w'=>e=.returned (.bool (ahL ts a b))∧w.grownBy w' none:=by
 obtain⟨z,t,h1,h2⟩:=ha
 obtain⟨y,u,h3,h4⟩:=hb
 have e1:fB ts a.th=t.stamp:=by unfold fB;rw[h1,toN,List.getD_eq_getElem?_getD,h2];rfl
 have e2:fB ts b.th=u.stamp:=by unfold fB;rw[h3,toN,List.getD_eq_getElem?_getD,h4];rfl
 have h:=BF vt ts a b z y t u w A h1 h2 h3 h4 hl
 unfold ahL
 rw[e1,e2]
 exact h
structure NxU (ts:List Th) (S:List Sd) (P:Nat→Bool) (i a:Nat) (f:Int):Prop where
 first:a≤i∧(i=0→a=0)∧(0<i→a<i)∧∀ b,b<i→ahL ts (S.getD b Sd.none) (S.getD a Sd.none)=false
 free:(f=-1∧∀ b,b<i→P b=false)∨∃ c:Nat,c<i∧f=(c:Int)∧P c=true∧∀ b,b<i→P b=true→ahL ts (S.getD b Sd.none) (S.getD c Sd.none)=false
theorem NxU.start (ts:List Th) (S:List Sd) (P:Nat→Bool):NxU ts S P 0 0 (-1):=⟨⟨Nat.le_refl _,fun _=>rfl,fun h=>absurd h (Nat.lt_irrefl _),fun _ h=>absurd h (Nat.not_lt_zero _)⟩,Or.inl ⟨rfl,fun _ h=>absurd h (Nat.not_lt_zero _)⟩⟩
def NxF (ts:List Th) (S:List Sd) (i a:Nat):Prop:=a<i+1∧∀ b,b<i+1→ahL ts (S.getD b Sd.none) (S.getD a Sd.none)=false
theorem NxU.here {ts:List Th} {S:List Sd} {P:Nat→Bool} {i a:Nat} {f:Int} (h:NxU ts S P i a f) (e:ahL ts (S.getD i Sd.none) (S.getD a Sd.none)=true):NxF ts S i i:=⟨Nat.lt_succ_self _,fun b hb=>by
 by_cases q:b=i
 ·subst q;exact lZ _ _
 ·refine Bool.eq_false_iff.2 fun z=>?_
  have:=ot z e
  rw[h.first.2.2.2 b (by omega)] at this
  cases this⟩
theorem NxU.there {ts:List Th} {S:List Sd} {P:Nat→Bool} {i a:Nat} {f:Int} (h:NxU ts S P i a f) (e:ahL ts (S.getD i Sd.none) (S.getD a Sd.none)=false):NxF ts S i a:=⟨Nat.lt_succ_of_le h.first.1,fun b hb=>by
 by_cases q:b=i
 ·subst q;exact e
 ·exact h.first.2.2.2 b (by omega)⟩
theorem NxF.next {ts:List Th} {S:List Sd} {i a:Nat} (h:NxF ts S i a):a≤i+1∧(i+1=0→a=0)∧(0<i+1→a<i+1)∧∀ b,b<i+1→ahL ts (S.getD b Sd.none) (S.getD a Sd.none)=false:=⟨Nat.le_of_lt h.1,fun z=>absurd z (by omega),fun _=>h.1,h.2⟩
theorem NxU.stuck {ts:List Th} {S:List Sd} {P:Nat→Bool} {i a a':Nat} {f:Int} (h:NxU ts S P i a f) (hf:NxF ts S i a') (hp:P i=false):NxU ts S P (i+1) a' f:=⟨hf.next,by
 rcases h.free with ⟨h1,h2⟩ | ⟨c,h1,h2,h3,h4⟩
 ·refine Or.inl ⟨h1,fun b hb=>?_⟩
  by_cases q:b=i
  ·subst q;exact hp
  ·exact h2 b (by omega)
 ·refine Or.inr ⟨c,by omega,h2,h3,fun b hb hpb=>?_⟩
  by_cases q:b=i
  ·subst q;rw[hp] at hpb;cases hpb
  ·exact h4 b (by omega) hpb⟩
theorem NxU.new {ts:List Th} {S:List Sd} {P:Nat→Bool} {i a a':Nat} (h:NxU ts S P i a (-1)) (hf:NxF ts S i a') (hp:P i=true):NxU ts S P (i+1) a' (i:Int):=⟨hf.next,by
 rcases h.free with ⟨h1,h2⟩ | ⟨c,h1,h2,h3,h4⟩
 ·refine Or.inr ⟨i,by omega,rfl,hp,fun b hb hpb=>?_⟩
  by_cases q:b=i
  ·subst q;exact lZ _ _
  ·rw[h2 b (by omega)] at hpb;cases hpb
 ·omega⟩
theorem NxU.less {ts:List Th} {S:List Sd} {P:Nat→Bool} {i a a' c:Nat} (h:NxU ts S P i a (c:Int)) (hf:NxF ts S i a') (hp:P i=true) (e:ahL ts (S.getD i Sd.none) (S.getD c Sd.none)=true):NxU ts S P (i+1) a' (i:Int):=⟨hf.next,by
 rcases h.free with ⟨h1,h2⟩ | ⟨c',h1,h2,h3,h4⟩
 ·omega
 ·obtain rfl:c=c':=by omega
  refine Or.inr ⟨i,by omega,rfl,hp,fun b hb hpb=>?_⟩
  by_cases q:b=i
  ·subst q;exact lZ _ _
  ·refine Bool.eq_false_iff.2 fun z=>?_
   have:=ot z e
   rw[h4 b (by omega) hpb] at this
   cases this⟩
theorem NxU.more {ts:List Th} {S:List Sd} {P:Nat→Bool} {i a a' c:Nat} (h:NxU ts S P i a (c:Int)) (hf:NxF ts S i a') (hp:P i=true) (e:ahL ts (S.getD i Sd.none) (S.getD c Sd.none)=false):NxU ts S P (i+1) a' (c:Int):=⟨hf.next,by
 rcases h.free with ⟨h1,h2⟩ | ⟨c',h1,h2,h3,h4⟩
 ·omega
 ·obtain rfl:c=c':=by omega
  refine Or.inr ⟨c,by omega,rfl,h3,fun b hb hpb=>?_⟩
  by_cases q:b=i
  ·subst q;exact e
  ·exact h4 b (by omega) hpb⟩
def hgK (R:List Rw) (F:List Fe) (L:List Se) (i k:Nat):Bool:=(List.range k).any fun j=>!decide (j=i) && rh R F (L.getD i Se.none) (L.getD j Se.none)
theorem jE (R:List Rw) (F:List Fe) (L:List Se) (i k:Nat):hgK R F L i (k+1)=(hgK R F L i k || (!decide (k=i) && rh R F (L.getD i Se.none) (L.getD k Se.none))):=by
 unfold hgK
 rw[List.range_succ,List.any_append]
 simp
theorem sC {R:List Rw} {F:List Fe} {L:List Se} {i k n:Nat} (h:hgK R F L i k=true) (hk:k≤n):hgK R F L i n=true:=by
 unfold hgK at *
 rw[List.any_eq_true] at *
 obtain⟨j,hj,e⟩:=h
 exact⟨j,List.mem_range.2 (Nat.lt_of_lt_of_le (List.mem_range.1 hj) hk),e⟩
theorem jP {R:List Rw} {F:List Fe} {L:List Se} {i:Nat}:dy R F L i=!hgK R F L i L.length:=by
 unfold dy hgK
 rw[Bool.eq_iff_iff]
 simp[List.all_eq_true,List.any_eq_false]
 constructor
 ·intro h j hj hne
  rcases h j hj with q | q
  ·exact absurd q.symm hne
  ·exact q
 ·intro h j hj
  by_cases q:i=j
  ·exact Or.inl q
  ·exact Or.inr (h j hj (fun z=>q z.symm))
end Go.Proofs.YthfjgpjcepmnmaaGreat
