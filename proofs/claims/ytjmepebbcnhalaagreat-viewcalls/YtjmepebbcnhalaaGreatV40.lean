import Derived.Test.YtjmepebbcnhalaaGreatV39
namespace Go.Proofs.YtjmepebbcnhalaaGreat
set_option maxRecDepth 100000
set_option maxHeartbeats 4000000
open Go.RowKit Go.Shelf
variable {r n k q:Int} {cd:Int→Hd×List Pt} {ts:List Th} {F:List Fe} {p:Pl} {gs:List Ent} {me:Th→Int} {w w':World}
theorem xh (h:lkE r n cd ts F []=0) (hk:¬(1≤k∧k≤5)):bgE r n cd ts F k=2:=by
 unfold bgE
 rw[if_pos h,if_neg hk]
theorem EV (h:lkE r n cd ts F []=0) (hk:1≤k∧k≤5):bgE r n cd ts F k=0:=by
 unfold bgE
 rw[if_pos h,if_pos hk]
theorem D5 (h:q=lkE r n cd ts F []) (h0:q≠0):bgE r n cd ts F k=q:=by
 unfold bgE
 rw[←h,if_neg h0]
theorem kS (ok:Nat→Prop) (r:Nat) (v:Value) (p:Pl) (gs:List Ent) (vt vf:Value) (ts:List Th) (F:List Fe) (k:Int) (w:World) (B:RD ok w r v p gs) (A:thR.At w vt ts) (AF:feR.At w vf F) (hr:TrI F):Calls Tryz.prog 14 #[.pointer (some ⟨r,0,none⟩),vt,vf,.int .i64 k] w (eD w (bg p ts.length) (gs.length:Int) (atC p gs) ts F k):=by
 obtain⟨pt,ct,rfl⟩:=A.form
 obtain⟨pf,cf,rfl⟩:=AF.form
 have C1:=jJ ok r v p gs _ _ ts F w B A AF hr
 have HV:Hid (RD ok w r v p gs∧thR.At w (.slice pt ts.length ct) ts∧feR.At w (.slice pf F.length cf) F):=⟨B,A,AF⟩
 obtain⟨q,hq⟩:=Qe (lkE (bg p ts.length) (gs.length:Int) (atC p gs) ts F [])
 have Hq:Hid (q=lkE (bg p ts.length) (gs.length:Int) (atC p gs) ts F []):=hq
 rw[←hq] at C1
 clear B A AF hr hq
 go_enter Tryz.func14,Tryz.ntmps14
 go_wp2_with fail
 refine C1.mono ?_
 rintro e1 w1 ⟨rfl,g1⟩
 have H1:Hid (w.grownBy w1 none∧RD ok w1 r v p gs∧thR.At w1 (.slice pt ts.length ct) ts∧feR.At w1 (.slice pf F.length cf) F):=⟨g1,HV.out.1.keep g1,HV.out.2.1.keep g1,HV.out.2.2.keep g1⟩
 clear C1 g1 HV
 by_cases h0:q=0
 ·have HZ:Hid (lkE (bg p ts.length) (gs.length:Int) (atC p gs) ts F []=0):=by show _=_;rw[←Hq.out,h0]
  obtain⟨r0,R,hR⟩:=kB (Hq.out.symm.trans h0)
  have hlen:ts.length≤2048:=Nat.le_of_not_lt fun z=>by
   unfold bg at r0
   rw[if_pos z] at r0
   cases r0
  have HT:Hid (bg p ts.length=0∧Tab (gs.length:Int) (atC p gs) ts F R∧ts.length≤2048):=⟨r0,Tab.of hR,hlen⟩
  have e0:(q != 0)=false:=by rw[h0];rfl
  clear h0 r0 hR hlen
  by_cases a1:k<1
  ·have d1:decide (k<1)=true:=Qy a1
   have HN:Hid (bgE (bg p ts.length) (gs.length:Int) (atC p gs) ts F k=2∧¬(1≤k∧k≤5)):=⟨xh HZ.out (by omega),by omega⟩
   clear a1
   go_wp2_with fail
   go_ret2
   exact⟨none,0,0,by rw[HN.out.1] <;> rfl,H1.out.1,fun _=>⟨rfl,rfl,rfl⟩,fun R' _ hk=>absurd hk HN.out.2⟩
  ·have d1:decide (k<1)=false:=Qx a1
   by_cases a2:5<k
   ·have d2:decide (5<k)=true:=Qy a2
    have HN:Hid (bgE (bg p ts.length) (gs.length:Int) (atC p gs) ts F k=2∧¬(1≤k∧k≤5)):=⟨xh HZ.out (by omega),by omega⟩
    clear a1 a2
    go_wp2_with fail
    go_ret2
    exact⟨none,0,0,by rw[HN.out.1] <;> rfl,H1.out.1,fun _=>⟨rfl,rfl,rfl⟩,fun R' _ hk=>absurd hk HN.out.2⟩
   ·have d2:decide (5<k)=false:=Qx a2
    have HN:Hid (bgE (bg p ts.length) (gs.length:Int) (atC p gs) ts F k=0):=EV HZ.out (by omega)
    have C2:=rz ok r v p gs _ _ ts F R k w1 H1.out.2.1 H1.out.2.2.1 H1.out.2.2.2 HT.out.2.1 HT.out.2.2
    clear a1 a2
    go_wp2_with fail
    refine C2.mono ?_
    rintro e2 w2 ⟨v2,rfl,o2,g2⟩
    obtain⟨p2,c2,ev⟩:=az.Own.form o2
    subst ev
    have H2:Hid (bF w2 w.heap.size (.slice p2 ((cx R (aq R F) k).map Se.s).length c2) ((cx R (aq R F) k).map Se.s)∧w.grownBy w2 none):=⟨aP o2 H1.out.1.size,ae H1.out.1 g2⟩
    clear C2 o2 g2
    go_wp2_with fail
    go_ret2
    exact⟨p2,_,c2,by rw[HN.out] <;> rfl,H2.out.2,fun z=>absurd HN.out z,fun R' _ _ hR'=>by
     rw[HT.out.2.1.tab] at hR'
     cases hR'
     have h9:=H2.out.1
     rw[List.length_map] at h9
     exact h9⟩
 ·have e0:(q != 0)=true:=by simpa using h0
  have HN:Hid (bgE (bg p ts.length) (gs.length:Int) (atC p gs) ts F k=q):=D5 Hq.out h0
  have H0:Hid (q≠0):=h0
  clear h0
  go_wp2_with fail
  go_ret2
  exact⟨none,0,0,by rw[HN.out] <;> rfl,H1.out.1,fun _=>⟨rfl,rfl,rfl⟩,fun R' r0 _ hR'=>by
   have h9:=Hq.out
   rw[r0,gd hR'] at h9
   exact absurd h9 H0.out⟩
set_option maxHeartbeats 8000000
def meR (t:Th):Int:=if dI t.m0 t.m1 t.m2 t.m3=true then 0 else 2
def vkR (p:Pl) (gs:List Ent) (ts:List Th):Int:=vkE (bg p ts.length) (gs.length:Int) (atC p gs) ts (aR (pfR p gs) (ts.take 2048)) meR
theorem CF (r n:Int) (cd:Int→Hd×List Pt) (ts:List Th) (F:List Fe):bgE r n cd ts F 1=lkE r n cd ts F []:=by
 unfold bgE
 by_cases h:lkE r n cd ts F []=0
 ·rw[if_pos h,if_pos (by decide),h]
 ·rw[if_neg h]
theorem sg (r n:Int) (cd:Int→Hd×List Pt) (ts:List Th) (F:List Fe):bgE r n cd ts F 1=bgE r n cd ts F 5:=by
 unfold bgE
 by_cases h:lkE r n cd ts F []=0
 ·rw[if_pos h,if_pos h,if_pos (by decide),if_pos (by decide)]
 ·rw[if_neg h,if_neg h]
theorem wL (h:bg p ts.length=q) (hq:q≠0):vkR p gs ts=q:=by
 unfold vkR
 have e:bgE (bg p ts.length) (gs.length:Int) (atC p gs) ts (aR (pfR p gs) (ts.take 2048)) 5=q:=by rw[Ff (by rw[h];exact hq),h]
 rw[rE (by rw[e];exact hq),e]
theorem BV (hl:ts.length≤2048) (h:bgE (bg p ts.length) (gs.length:Int) (atC p gs) ts (aR (pfR p gs) ts) 1=q) (hq:q≠0):vkR p gs ts=q:=by
 unfold vkR
 rw[List.take_of_length_le hl]
 rw[sg] at h
 rw[rE (by rw[h];exact hq),h]
theorem Ew (hl:ts.length≤2048) (h:bgE (bg p ts.length) (gs.length:Int) (atC p gs) ts (aR (pfR p gs) ts) 1=0):vkR p gs ts=mkE meR ts:=by
 unfold vkR
 rw[List.take_of_length_le hl]
 rw[sg] at h
 rw[mE h]
theorem ye {n:Nat} (h:¬n≤2048):bg p n=3:=if_pos (by omega)
theorem yY {n:Nat} (h:n≤2048) (hs:p.shut=false):bg p n=2:=by unfold bg;rw[if_neg (by omega),hs];rfl
theorem lK {n:Nat} (h:n≤2048) (hs:p.shut=true):bg p n=0:=by unfold bg;rw[if_neg (by omega),if_pos hs]
theorem sK (h:bw n cd ts F=none):bgE 0 n cd ts F 1=2:=by rw[CF,kD h]
theorem Bd {k:Nat} {t:Th} (h:mkE me ts=mkE me (ts.drop k)) (ht:ts[k]?=some t):mkE me ts=mkE me (t :: ts.drop (k+1)):=by
 obtain⟨hk,e⟩:=Qh ht
 rw[h,List.drop_eq_getElem_cons hk,e]
theorem Co (h:mkE me ts=mkE me (ts.drop ts.length)):mkE me ts=0:=by rw[h,List.drop_length];rfl
def StP (w:World) (p:Pl) (gs:List Ent) (ts:List Th) (e:Ending) (w':World):Prop:=∃ v,e=.returned (.tuple #[v,.int .i64 (vkR p gs ts)])∧w.grownBy w' none∧(¬vkR p gs ts=0→v=.slice none 0 0)∧(vkR p gs ts=0→aQ w' w.heap.size v (aR (pfR p gs) ts))
theorem StP.no (h:vkR p gs ts=q) (hq:q≠0) (g:w.grownBy w' none):StP w p gs ts (.returned (.tuple #[.slice none 0 0,.int .i64 q])) w':=⟨_,by rw[h],g,fun _=>rfl,fun z=>absurd (h.symm.trans z) hq⟩
theorem kA (ok:Nat→Prop) (r:Nat) (vr:Value) (p:Pl) (gs:List Ent) (v:Value) (ts:List Th) (w:World) (B:RD ok w r vr p gs) (A:thR.At w v ts) (hc:RgC (atC p gs)):Calls Tryz.prog 92 #[.pointer (some ⟨r,0,none⟩),v] w (StP w p gs ts):=by
 have C1:=bs r vr p w B.rj
 have C2:=gC r vr p w B.rj
 have HP:Hid (ts.length≤2048→Calls Tryz.prog 158 #[.pointer (some ⟨r,0,none⟩),v] w fun e w'=>∃ v' b,e=.returned (.tuple #[v',.bool b])∧w.grownBy w' none∧((b=true∧aQ w' w.heap.size v' (aR (pfR p gs) ts)∧∀ t∈ts,ptR p gs t=0)∨(b=false∧v'=.slice none 0 0∧∃ t∈ts,¬ptR p gs t=0))):=fun q=>oe ok r vr p gs v ts w B A q
 have HEf:Hid (∀ X vf,w.grownBy X none→feR.At X vf (aR (pfR p gs) ts)→Calls Tryz.prog 14 #[.pointer (some ⟨r,0,none⟩),v,vf,.int .i64 1] X (eD X (bg p ts.length) (gs.length:Int) (atC p gs) ts (aR (pfR p gs) ts) 1)):=fun X vf g F=>kS ok r vr p gs v vf ts _ 1 X (B.keep g) (A.keep g) F (qx hc ts).tr
 have HA:Hid (thR.At w v ts):=A
 obtain⟨pt,ct,rfl⟩:=A.form
 clear A B hc
 go_enter Tryz.func92,Tryz.ntmps92
 go_wp2_with fail
 refine C1.mono ?_
 rintro e1 w1 ⟨rfl,hw1⟩
 rw[hw1]
 clear hw1 w1 C1
 by_cases hl:ts.length≤2048
 ·have h2':decide ((2048:Int)<(ts.length:Int))=false:=Qx (by omega)
  have Hl:Hid (ts.length≤2048):=hl
  have CP:=HP.out hl
  obtain⟨sh,hsh⟩:=Qe (p.shut)
  have Hsh:Hid (sh=p.shut):=hsh
  rw[←hsh] at C2
  clear hsh hl
  go_wp2_with fail
  refine C2.mono ?_
  rintro e2 w2 ⟨rfl,hw2⟩
  rw[hw2]
  clear hw2 w2 C2
  cases sh with
  | false =>
   have HE:Hid (vkR p gs ts=2):=wL (yY Hl.out Hsh.out.symm) (by decide)
   clear CP
   go_wp2_with fail
   go_ret2
   exact StP.no HE.out (by decide) (ay _ _)
  | true =>
   have Hr:Hid (bg p ts.length=0):=lK Hl.out Hsh.out.symm
   go_wp2_with fail
   refine CP.mono ?_
   rintro e3 w3 ⟨vf,b,rfl,g3,h3⟩
   have HG3:Hid (w.grownBy w3 none):=g3
   clear CP g3
   rcases h3 with ⟨rfl,O,-⟩ | ⟨rfl,rfl,t,ht,hx⟩
   ·have CE:=HEf.out w3 vf HG3.out (az.Own.at O)
    unfold eD at CE
    have HO:Hid (aQ w3 w.heap.size vf (aR (pfR p gs) ts)):=O
    obtain⟨pf,cf,rfl⟩:=az.Own.form O
    clear O
    obtain⟨x,hx⟩:=Qe (bgE (bg p ts.length) (gs.length:Int) (atC p gs) ts (aR (pfR p gs) ts) 1)
    have HX:Hid (x=bgE (bg p ts.length) (gs.length:Int) (atC p gs) ts (aR (pfR p gs) ts) 1):=hx
    rw[←hx] at CE
    clear hx
    go_wp2_with fail
    refine CE.mono ?_
    rintro e4 w4 ⟨pe,me,ce,rfl,g4,-⟩
    have HG4:Hid (w.grownBy w4 none∧aQ w4 w.heap.size (.slice pf (aR (pfR p gs) ts).length cf) (aR (pfR p gs) ts)):=⟨ae HG3.out g4,aw HO.out g4⟩
    clear CE g4 HO HG3
    by_cases hx:x=0
    ·have ex:(x != 0)=false:=by rw[hx];rfl
     have HV:Hid (vkR p gs ts=mkE meR ts):=Ew Hl.out (HX.out.symm.trans hx)
     clear hx
     go_wp2_with fail
     clear ex h2'
     go_loopw [11,12] (fun i _ wr=>∃ (k:Nat),k≤ts.length∧i=.int .i64 (k:Int)∧Hid (w4.grownBy wr none∧mkE meR ts=mkE meR (ts.drop k))) (fun i _ _=>ts.length - (intOf i).toNat)
     case atStart=>exact⟨0,Q0 _,rfl,ay _ _,rfl⟩
     case round =>
      obtain⟨k,hk,rfl,HI⟩:=hrel
      obtain⟨U,hU⟩:=Qe (wr)
      subst hU
      by_cases hlt:k<ts.length
      ·have k1:(k:Int)<(ts.length:Int):=Int.ofNat_lt.2 hlt
       have hwk:=aK (k:=k) (Ql (Nat.le_of_lt hlt) (Ql Hl.out (by decide)))
       have HM:Hid (ts.length - (intOf (.int .i64 ((k:Int)+1))).toNat<ts.length - (intOf (.int .i64 (k:Int))).toNat):=bj hlt
       obtain⟨gT,oT,cT,eT,rT⟩:=bO (HA.out.keep (ae HG4.out.1 HI.out.1)) hlt
       injection eT with eT eT2 eT3
       clear eT2 eT3
       subst eT
       obtain⟨t,ht⟩:∃ t,ts[k]?=some t:=⟨_,Qg hlt⟩
       rw[show ts[k]=t from (Qh ht).2] at rT
       have HR:Hid (U.rangeAt gT (oT+k*11) (thc t)):=rT
       have HD:Hid (mkE meR ts=mkE meR (t :: ts.drop (k+1))∧k<ts.length):=⟨Bd HI.out.2 ht,hlt⟩
       have HFin:∀ W,(¬mkE meR ts=0∧mkE meR ts=2)→U.grownBy W none→StP w p gs ts (.returned (.tuple #[.slice none 0 0,.int .i64 2])) W:=fun W q g=>StP.no (HV.out.trans q.2) (by decide) (ae (ae HG4.out.1 HI.out.1) g)
       have HFn:Hid (∀ W,(¬mkE meR ts=0∧mkE meR ts=2)→U.grownBy W none→StP w p gs ts (.returned (.tuple #[.slice none 0 0,.int .i64 2])) W):=HFin
       clear HFin rT hlt hk ht
       go_wp2_with fail
       by_cases hp:t.place=4
       ·have hpb:(t.place == 4)=true:=by rw[hp];rfl
        have Hp:Hid (t.place=4):=hp
        have HNo:Hid (dI t.m0 t.m1 t.m2 t.m3=false→¬mkE meR ts=0∧mkE meR ts=2):=fun q=>by
         have e:meR t=2:=by unfold meR;rw[q];rfl
         have e2:mkE meR ts=2:=by rw[HD.out.1,AC Hp.out (by rw[e];decide),e]
         exact⟨by rw[e2];decide,e2⟩
        go_loopw [12] (fun m wr=>∃ (j:Nat),j≤4∧m=.int .i64 (j:Int)∧Hid (U.grownBy wr none∧MlR t.m0 t.m1 t.m2 t.m3 j)) (fun m _=>4 - (intOf m).toNat)
        case atStart=>exact⟨0,by decide,rfl,ay _ _,fun h=>absurd h (by decide),fun h=>absurd h (by decide),fun h=>absurd h (by decide),fun h=>absurd h (by decide)⟩
        case round =>
         obtain⟨j,hj,rfl,HJ⟩:=hrel
         obtain⟨Q,hQ⟩:=Qe (wr)
         subst hQ
         obtain⟨c0,c1,c2,c3,c4,c5,c6,c7,c8,c9,c10⟩:=bz (aS HR.out HJ.out.1)
         rw[hp] at c2
         rcases (show j=0∨j=1∨j=2∨j=3∨j=4 from by omega) with rfl | rfl | rfl | rfl | rfl
         ·have x0:=c5
          cases h0:okc t.m0 with
          | false =>
           have HE:Hid (¬mkE meR ts=0∧mkE meR ts=2):=HNo.out (by unfold dI;simp[h0])
           rcases iQ h0 with l | l
           ·have l1:decide (t.m0<0)=true:=Qy l
            clear h0 l
            go_wp2_with fail
            go_ret2
            exact HFn.out _ HE.out HJ.out.1
           ·have l1:decide (t.m0<0)=false:=Qx (by omega)
            have l2:decide (99<t.m0)=true:=Qy l
            clear h0 l
            go_wp2_with fail
            go_ret2
            exact HFn.out _ HE.out HJ.out.1
          | true =>
           have HK2:Hid (MlR t.m0 t.m1 t.m2 t.m3 1):=by have q:=HJ.out.2;have r:=h0;exact⟨fun _=>r,fun h=>absurd h (by decide),fun h=>absurd h (by decide),fun h=>absurd h (by decide)⟩
           have l:=dY h0
           have l1:decide (t.m0<0)=false:=Qx (by omega)
           have l2:decide (99<t.m0)=false:=Qx (by omega)
           clear h0 l
           go_wp2_with fail
           go_roundw
           case rel=>exact⟨1,by decide,by first | rfl | go_num,HJ.out.1,HK2.out⟩
           case measure=>simp[intOf]
         ·have x0:=c6
          cases h0:okc t.m1 with
          | false =>
           have HE:Hid (¬mkE meR ts=0∧mkE meR ts=2):=HNo.out (by unfold dI;simp[h0])
           rcases iQ h0 with l | l
           ·have l1:decide (t.m1<0)=true:=Qy l
            clear h0 l
            go_wp2_with fail
            go_ret2
            exact HFn.out _ HE.out HJ.out.1
           ·have l1:decide (t.m1<0)=false:=Qx (by omega)
            have l2:decide (99<t.m1)=true:=Qy l
            clear h0 l
            go_wp2_with fail
            go_ret2
            exact HFn.out _ HE.out HJ.out.1
          | true =>
           have HK2:Hid (MlR t.m0 t.m1 t.m2 t.m3 2):=by have q:=HJ.out.2;have r:=h0;exact⟨fun _=>q.1 (by decide),fun _=>r,fun h=>absurd h (by decide),fun h=>absurd h (by decide)⟩
           have l:=dY h0
           have l1:decide (t.m1<0)=false:=Qx (by omega)
           have l2:decide (99<t.m1)=false:=Qx (by omega)
           clear h0 l
           go_wp2_with fail
           go_roundw
           case rel=>exact⟨2,by decide,by first | rfl | go_num,HJ.out.1,HK2.out⟩
           case measure=>simp[intOf]
         ·have x0:=c7
          cases h0:okc t.m2 with
          | false =>
           have HE:Hid (¬mkE meR ts=0∧mkE meR ts=2):=HNo.out (by unfold dI;simp[h0])
           rcases iQ h0 with l | l
           ·have l1:decide (t.m2<0)=true:=Qy l
            clear h0 l
            go_wp2_with fail
            go_ret2
            exact HFn.out _ HE.out HJ.out.1
           ·have l1:decide (t.m2<0)=false:=Qx (by omega)
            have l2:decide (99<t.m2)=true:=Qy l
            clear h0 l
            go_wp2_with fail
            go_ret2
            exact HFn.out _ HE.out HJ.out.1
          | true =>
           have HK2:Hid (MlR t.m0 t.m1 t.m2 t.m3 3):=by have q:=HJ.out.2;have r:=h0;exact⟨fun _=>q.1 (by decide),fun _=>q.2.1 (by decide),fun _=>r,fun h=>absurd h (by decide)⟩
           have l:=dY h0
           have l1:decide (t.m2<0)=false:=Qx (by omega)
           have l2:decide (99<t.m2)=false:=Qx (by omega)
           clear h0 l
           go_wp2_with fail
           go_roundw
           case rel=>exact⟨3,by decide,by first | rfl | go_num,HJ.out.1,HK2.out⟩
           case measure=>simp[intOf]
         ·have x0:=c8
          cases h0:okc t.m3 with
          | false =>
           have HE:Hid (¬mkE meR ts=0∧mkE meR ts=2):=HNo.out (by unfold dI;simp[h0])
           rcases iQ h0 with l | l
           ·have l1:decide (t.m3<0)=true:=Qy l
            clear h0 l
            go_wp2_with fail
            go_ret2
            exact HFn.out _ HE.out HJ.out.1
           ·have l1:decide (t.m3<0)=false:=Qx (by omega)
            have l2:decide (99<t.m3)=true:=Qy l
            clear h0 l
            go_wp2_with fail
            go_ret2
            exact HFn.out _ HE.out HJ.out.1
          | true =>
           have HK2:Hid (MlR t.m0 t.m1 t.m2 t.m3 4):=by have q:=HJ.out.2;have r:=h0;exact⟨fun _=>q.1 (by decide),fun _=>q.2.1 (by decide),fun _=>q.2.2.1 (by decide),fun _=>r⟩
           have l:=dY h0
           have l1:decide (t.m3<0)=false:=Qx (by omega)
           have l2:decide (99<t.m3)=false:=Qx (by omega)
           clear h0 l
           go_wp2_with fail
           go_roundw
           case rel=>exact⟨4,by decide,by first | rfl | go_num,HJ.out.1,HK2.out⟩
           case measure=>simp[intOf]
         ·have HE:Hid (dI t.m0 t.m1 t.m2 t.m3=true):=by show _=_;have q:=HJ.out.2;unfold dI;simp[q.1 (by decide),q.2.1 (by decide),q.2.2.1 (by decide),q.2.2.2 (by decide)]
          clear c0 c1 c2 c3 c4 c5 c6 c7 c8 c9 c10
          have HN:Hid (mkE meR ts=mkE meR (ts.drop (k+1))):=by
           show _=_
           rw[HD.out.1,qR]
           rintro⟨a,b⟩
           exact b (by unfold meR;rw[if_pos (HE.out)])
          go_wp2_with fail
          go_roundw
          case rel=>exact⟨k+1,HD.out.2,by first | rfl | (rw[hwk];rfl) | go_num,ae HI.out.1 (HJ.out.1),HN.out⟩
          case measure=>first | exact HM.out | (rw[hwk];exact HM.out)
       ·have hpb:(t.place == 4)=false:=by simpa using hp
        have Hp:Hid (¬t.place=4):=hp
        clear hp
        go_loopw [12] (fun m wr=>∃ (j:Nat),j≤4∧m=.int .i64 (j:Int)∧Hid (U.grownBy wr none)) (fun m _=>4 - (intOf m).toNat)
        case atStart=>exact⟨0,by decide,rfl,ay _ _⟩
        case round =>
         obtain⟨j,hj,rfl,HJ⟩:=hrel
         obtain⟨Q,hQ⟩:=Qe (wr)
         subst hQ
         obtain⟨c0,c1,c2,-⟩:=bz (aS HR.out HJ.out)
         by_cases hj4:j<4
         ·have j1:(j:Int)<4:=by omega
          have hwj:=aK (k:=j) (by omega)
          have HMj:Hid (4 - (intOf (.int .i64 ((j:Int)+1))).toNat<4 - (intOf (.int .i64 (j:Int))).toNat):=bj hj4
          have Hj:Hid (j<4):=hj4
          clear hj hj4
          go_wp2_with fail
          go_roundw
          case rel=>exact⟨j+1,Hj.out,by first | rfl | (rw[hwj];rfl) | go_num,HJ.out⟩
          case measure=>first | exact HMj.out | (rw[hwj];exact HMj.out)
         ·have j1:¬(j:Int)<4:=by omega
          clear hj hj4 c0 c1 c2
          have HN:Hid (mkE meR ts=mkE meR (ts.drop (k+1))):=by
           show _=_
           rw[HD.out.1,qR]
           rintro⟨a,b⟩
           exact b (by unfold meR;rw[if_pos (absurd a Hp.out)])
          go_wp2_with fail
          go_roundw
          case rel=>exact⟨k+1,HD.out.2,by first | rfl | (rw[hwk];rfl) | go_num,ae HI.out.1 (HJ.out),HN.out⟩
          case measure=>first | exact HM.out | (rw[hwk];exact HM.out)
      ·obtain rfl:k=ts.length:=Nat.le_antisymm hk (Nat.le_of_not_lt hlt)
       have k1:¬(ts.length:Int)<(ts.length:Int):=Int.lt_irrefl _
       have HZ:Hid (vkR p gs ts=0):=HV.out.trans (Co HI.out.2)
       clear hk hlt
       go_wp2_with fail
       go_ret2
       exact⟨.slice pf (aR (pfR p gs) ts).length cf,by rw[HZ.out];rfl,ae HG4.out.1 HI.out.1,fun z=>absurd HZ.out z,fun _=>aw HG4.out.2 HI.out.1⟩
    ·have ex:(x != 0)=true:=by simpa using hx
     have HE:Hid (vkR p gs ts=x∧¬x=0):=⟨BV Hl.out HX.out.symm hx,hx⟩
     clear hx
     go_wp2_with fail
     go_ret2
     exact StP.no HE.out.1 HE.out.2 HG4.out.1
   ·have HE:Hid (vkR p gs ts=2):=BV Hl.out (by rw[Hr.out];exact sK (DW Hsh.out.symm ht hx)) (by decide)
    clear ht hx
    go_wp2_with fail
    go_ret2
    exact StP.no HE.out (by decide) HG3.out
 ·have h2':decide ((2048:Int)<(ts.length:Int))=true:=Qy (by omega)
  have HE:Hid (vkR p gs ts=3):=wL (ye hl) (by decide)
  clear hl C2
  go_wp2_with fail
  go_ret2
  exact StP.no HE.out (by decide) (ay _ _)
end Go.Proofs.YtjmepebbcnhalaaGreat
