/-
  The document's layers: Effects.
  The document's view: what is refused,and what is printed.
-/
import Derived.Test.YthfjgpjcepmnmaaGreatZRyO
import Derived.Test.YthfjgpjcepmnmaaGreatZ34
import Derived.Test.YthfjgpjcepmnmaaGreatZTgR
namespace Go.Proofs.YthfjgpjcepmnmaaGreat
set_option maxRecDepth 100000
set_option maxHeartbeats 4000000
open Go.RowKit Go.Shelf
theorem bgE_out {r n:Int} {cd:Int→Hd×List Pt} {ts:List Th} {F:List Fe} {k:Int} (h:lkE r n cd ts F []=0) (hk:¬(1≤k∧k≤5)):bgE r n cd ts F k=2:=by
 unfold bgE
 rw[if_pos h,if_neg hk]
theorem bgE_in {r n:Int} {cd:Int→Hd×List Pt} {ts:List Th} {F:List Fe} {k:Int} (h:lkE r n cd ts F []=0) (hk:1≤k∧k≤5):bgE r n cd ts F k=0:=by
 unfold bgE
 rw[if_pos h,if_pos hk]
theorem bgE_err {r n:Int} {cd:Int→Hd×List Pt} {ts:List Th} {F:List Fe} {k q:Int} (h:q=lkE r n cd ts F []) (h0:q≠0):bgE r n cd ts F k=q:=by
 unfold bgE
 rw[←h,if_neg h0]
theorem rEffects_any (ok:Nat→Prop) (r:Nat) (v:Value) (p:Pl) (gs:List Ent) (vt vf:Value) (ts:List Th) (F:List Fe) (k:Int) (w:World) (B:RD ok w r v p gs) (A:thR.At w vt ts) (AF:feR.At w vf F) (hr:TrI F):Calls Tryz.prog 40 #[.pointer (some ⟨r,0,none⟩),vt,vf,.int .i64 k] w (EffectsPost w (refE p ts.length) (gs.length:Int) (atC p gs) ts F k):=by
 obtain⟨pt,ct,rfl⟩:=A.form
 obtain⟨pf,cf,rfl⟩:=AF.form
 have C1:=rwrong_any ok r v p gs _ _ ts F w B A AF hr
 have HV:Hid (RD ok w r v p gs∧thR.At w (.slice pt ts.length ct) ts∧feR.At w (.slice pf F.length cf) F):=⟨B,A,AF⟩
 obtain⟨q,hq⟩:∃ q,q=lkE (refE p ts.length) (gs.length:Int) (atC p gs) ts F []:=⟨_,rfl⟩
 have Hq:Hid (q=lkE (refE p ts.length) (gs.length:Int) (atC p gs) ts F []):=hq
 rw[←hq] at C1
 clear B A AF hr hq
 go_enter Tryz.func40,Tryz.ntmps40
 go_wp2_with fail
 refine C1.mono ?_
 rintro e1 w1 ⟨rfl,g1⟩
 have H1:Hid (w.grownBy w1 none∧RD ok w1 r v p gs∧thR.At w1 (.slice pt ts.length ct) ts∧feR.At w1 (.slice pf F.length cf) F):=⟨g1,HV.out.1.keep g1,HV.out.2.1.keep g1,HV.out.2.2.keep g1⟩
 clear C1 g1 HV
 by_cases h0:q=0
 ·have HZ:Hid (lkE (refE p ts.length) (gs.length:Int) (atC p gs) ts F []=0):=by show _=_;rw[←Hq.out,h0]
  obtain⟨r0,R,hR⟩:=lkE_nil (Hq.out.symm.trans h0)
  have hlen:ts.length≤2048:=Nat.le_of_not_lt fun z=>by
   unfold refE at r0
   rw[if_pos z] at r0
   cases r0
  have HT:Hid (refE p ts.length=0∧Tab (gs.length:Int) (atC p gs) ts F R∧ts.length≤2048):=⟨r0,Tab.of hR,hlen⟩
  have e0:(q != 0)=false:=by rw[h0];rfl
  clear h0 r0 hR hlen
  by_cases a1:k<1
  ·have d1:decide (k<1)=true:=decide_eq_true a1
   have HN:Hid (bgE (refE p ts.length) (gs.length:Int) (atC p gs) ts F k=2∧¬(1≤k∧k≤5)):=⟨bgE_out HZ.out (by omega),by omega⟩
   clear a1
   go_wp2_with fail
   go_ret2
   exact⟨none,0,0,by rw[HN.out.1] <;> rfl,H1.out.1,fun _=>⟨rfl,rfl⟩,fun R' _ hk=>absurd hk HN.out.2⟩
  ·have d1:decide (k<1)=false:=decide_eq_false a1
   by_cases a2:5<k
   ·have d2:decide (5<k)=true:=decide_eq_true a2
    have HN:Hid (bgE (refE p ts.length) (gs.length:Int) (atC p gs) ts F k=2∧¬(1≤k∧k≤5)):=⟨bgE_out HZ.out (by omega),by omega⟩
    clear a1 a2
    go_wp2_with fail
    go_ret2
    exact⟨none,0,0,by rw[HN.out.1] <;> rfl,H1.out.1,fun _=>⟨rfl,rfl⟩,fun R' _ hk=>absurd hk HN.out.2⟩
   ·have d2:decide (5<k)=false:=decide_eq_false a2
    have HN:Hid (bgE (refE p ts.length) (gs.length:Int) (atC p gs) ts F k=0):=bgE_in HZ.out (by omega)
    have C2:=reffects_any ok r v p gs _ _ ts F R k w1 H1.out.2.1 H1.out.2.2.1 H1.out.2.2.2 HT.out.2.1 HT.out.2.2
    clear a1 a2
    go_wp2_with fail
    refine C2.mono ?_
    rintro e2 w2 ⟨v2,rfl,o2,g2⟩
    obtain⟨p2,c2,ev⟩:=RecT.Own.form o2
    subst ev
    have H2:Hid (DOwn w2 w.heap.size (.slice p2 ((effL R (pickF R F) k).map Se.s).length c2) ((effL R (pickF R F) k).map Se.s)∧w.grownBy w2 none):=⟨own_big o2 H1.out.1.size,grown_trans H1.out.1 g2⟩
    clear C2 o2 g2
    go_wp2_with fail
    go_ret2
    exact⟨p2,_,c2,by rw[HN.out] <;> rfl,H2.out.2,fun z=>absurd HN.out z,fun R' _ _ hR'=>by
     rw[HT.out.2.1.tab] at hR'
     cases hR'
     have h9:=H2.out.1
     rw[List.length_map] at h9
     exact h9⟩
 ·have e0:(q != 0)=true:=by simpa using h0
  have HN:Hid (bgE (refE p ts.length) (gs.length:Int) (atC p gs) ts F k=q):=bgE_err Hq.out h0
  have H0:Hid (q≠0):=h0
  clear h0
  go_wp2_with fail
  go_ret2
  exact⟨none,0,0,by rw[HN.out] <;> rfl,H1.out.1,fun _=>⟨rfl,rfl⟩,fun R' r0 _ hR'=>by
   have h9:=Hq.out
   rw[r0,lkE_tabs hR'] at h9
   exact absurd h9 H0.out⟩
set_option maxHeartbeats 8000000
def meR (t:Th):Int:=if okcs t.m0 t.m1 t.m2 t.m3=true then 0 else 2
def vkR (p:Pl) (gs:List Ent) (ts:List Th):Int:=vkE (refE p ts.length) (gs.length:Int) (atC p gs) ts (prtF (pfR p gs) (ts.take 2048)) meR
theorem bgE_lkV (r n:Int) (cd:Int→Hd×List Pt) (ts:List Th) (F:List Fe):bgE r n cd ts F 1=lkE r n cd ts F []:=by
 unfold bgE
 by_cases h:lkE r n cd ts F []=0
 ·rw[if_pos h,if_pos (by decide),h]
 ·rw[if_neg h]
theorem bgE_five (r n:Int) (cd:Int→Hd×List Pt) (ts:List Th) (F:List Fe):bgE r n cd ts F 1=bgE r n cd ts F 5:=by
 unfold bgE
 by_cases h:lkE r n cd ts F []=0
 ·rw[if_pos h,if_pos h,if_pos (by decide),if_pos (by decide)]
 ·rw[if_neg h,if_neg h]
theorem vkR_ref {p:Pl} {gs:List Ent} {ts:List Th} {q:Int} (h:refE p ts.length=q) (hq:q≠0):vkR p gs ts=q:=by
 unfold vkR
 have e:bgE (refE p ts.length) (gs.length:Int) (atC p gs) ts (prtF (pfR p gs) (ts.take 2048)) 5=q:=by rw[bgE_no (by rw[h];exact hq),h]
 rw[vkE_no (by rw[e];exact hq),e]
theorem vkR_bg {p:Pl} {gs:List Ent} {ts:List Th} {q:Int} (hl:ts.length≤2048) (h:bgE (refE p ts.length) (gs.length:Int) (atC p gs) ts (prtF (pfR p gs) ts) 1=q) (hq:q≠0):vkR p gs ts=q:=by
 unfold vkR
 rw[List.take_of_length_le hl]
 rw[bgE_five] at h
 rw[vkE_no (by rw[h];exact hq),h]
theorem vkR_mk {p:Pl} {gs:List Ent} {ts:List Th} (hl:ts.length≤2048) (h:bgE (refE p ts.length) (gs.length:Int) (atC p gs) ts (prtF (pfR p gs) ts) 1=0):vkR p gs ts=mkE meR ts:=by
 unfold vkR
 rw[List.take_of_length_le hl]
 rw[bgE_five] at h
 rw[vkE_yes h]
theorem refE_long {p:Pl} {n:Nat} (h:¬n≤2048):refE p n=3:=if_pos (by omega)
theorem refE_open {p:Pl} {n:Nat} (h:n≤2048) (hs:p.shut=false):refE p n=2:=by unfold refE;rw[if_neg (by omega),hs];rfl
theorem refE_shut {p:Pl} {n:Nat} (h:n≤2048) (hs:p.shut=true):refE p n=0:=by unfold refE;rw[if_neg (by omega),if_pos hs]
theorem bgE_tabless {n:Int} {cd:Int→Hd×List Pt} {ts:List Th} {F:List Fe} (h:tabR n cd ts F=none):bgE 0 n cd ts F 1=2:=by rw[bgE_lkV,lkE_tab h]
theorem mkE_drop {me:Th→Int} {ts:List Th} {k:Nat} {t:Th} (h:mkE me ts=mkE me (ts.drop k)) (ht:ts[k]?=some t):mkE me ts=mkE me (t :: ts.drop (k+1)):=by
 obtain⟨hk,e⟩:=List.getElem?_eq_some_iff.1 ht
 rw[h,List.drop_eq_getElem_cons hk,e]
theorem mkE_end {me:Th→Int} {ts:List Th} (h:mkE me ts=mkE me (ts.drop ts.length)):mkE me ts=0:=by rw[h,List.drop_length];rfl
def StP (w:World) (p:Pl) (gs:List Ent) (ts:List Th) (e:Ending) (w':World):Prop:=∃ v,e=.returned (.tuple #[v,.int .i64 (vkR p gs ts)])∧w.grownBy w' none∧(¬vkR p gs ts=0→v=.slice none 0 0)∧(vkR p gs ts=0→FOwn w' w.heap.size v (prtF (pfR p gs) ts))
theorem StP.no {w w':World} {p:Pl} {gs:List Ent} {ts:List Th} {q:Int} (h:vkR p gs ts=q) (hq:q≠0) (g:w.grownBy w' none):StP w p gs ts (.returned (.tuple #[.slice none 0 0,.int .i64 q])) w':=⟨_,by rw[h],g,fun _=>rfl,fun z=>absurd (h.symm.trans z) hq⟩
theorem rstart20_any (ok:Nat→Prop) (r:Nat) (vr:Value) (p:Pl) (gs:List Ent) (v:Value) (ts:List Th) (w:World) (B:RD ok w r vr p gs) (A:thR.At w v ts) (hc:RgC (atC p gs)):Calls Tryz.prog 118 #[.pointer (some ⟨r,0,none⟩),v] w (StP w p gs ts):=by
 have C1:=rnone_any r vr p w B.rj
 have C2:=rsealed_any r vr p w B.rj
 have HP:Hid (ts.length≤2048→Calls Tryz.prog 182 #[.pointer (some ⟨r,0,none⟩),v] w fun e w'=>∃ v' b,e=.returned (.tuple #[v',.bool b])∧w.grownBy w' none∧((b=true∧FOwn w' w.heap.size v' (prtF (pfR p gs) ts)∧∀ t∈ts,ptR p gs t=0)∨(b=false∧v'=.slice none 0 0∧∃ t∈ts,¬ptR p gs t=0))):=fun q=>rPrinted20_any ok r vr p gs v ts w B A q
 have HEf:Hid (∀ X vf,w.grownBy X none→feR.At X vf (prtF (pfR p gs) ts)→Calls Tryz.prog 40 #[.pointer (some ⟨r,0,none⟩),v,vf,.int .i64 1] X (EffectsPost X (refE p ts.length) (gs.length:Int) (atC p gs) ts (prtF (pfR p gs) ts) 1)):=fun X vf g F=>rEffects_any ok r vr p gs v vf ts _ 1 X (B.keep g) (A.keep g) F (prt_rg hc ts).tr
 have HA:Hid (thR.At w v ts):=A
 obtain⟨pt,ct,rfl⟩:=A.form
 clear A B hc
 go_enter Tryz.func118,Tryz.ntmps118
 go_wp2_with fail
 refine C1.mono ?_
 rintro e1 w1 ⟨rfl,hw1⟩
 rw[hw1]
 clear hw1 w1 C1
 by_cases hl:ts.length≤2048
 ·have h2':decide ((2048:Int)<(ts.length:Int))=false:=decide_eq_false (by omega)
  have Hl:Hid (ts.length≤2048):=hl
  have CP:=HP.out hl
  obtain⟨sh,hsh⟩:∃ sh,sh=p.shut:=⟨_,rfl⟩
  have Hsh:Hid (sh=p.shut):=hsh
  rw[←hsh] at C2
  clear hsh hl
  go_wp2_with fail
  refine C2.mono ?_
  rintro e2 w2 ⟨rfl,hw2⟩
  rw[hw2]
  clear hw2 w2 C2
  cases sh with
  | false =>
   have HE:Hid (vkR p gs ts=2):=vkR_ref (refE_open Hl.out Hsh.out.symm) (by decide)
   clear CP
   go_wp2_with fail
   go_ret2
   exact StP.no HE.out (by decide) (grown_refl _ _)
  | true =>
   have Hr:Hid (refE p ts.length=0):=refE_shut Hl.out Hsh.out.symm
   go_wp2_with fail
   refine CP.mono ?_
   rintro e3 w3 ⟨vf,b,rfl,g3,h3⟩
   have HG3:Hid (w.grownBy w3 none):=g3
   clear CP g3
   rcases h3 with ⟨rfl,O,-⟩ | ⟨rfl,rfl,t,ht,hx⟩
   ·have CE:=HEf.out w3 vf HG3.out (RecT.Own.at O)
    unfold EffectsPost at CE
    have HO:Hid (FOwn w3 w.heap.size vf (prtF (pfR p gs) ts)):=O
    obtain⟨pf,cf,rfl⟩:=RecT.Own.form O
    clear O
    obtain⟨x,hx⟩:∃ x,x=bgE (refE p ts.length) (gs.length:Int) (atC p gs) ts (prtF (pfR p gs) ts) 1:=⟨_,rfl⟩
    have HX:Hid (x=bgE (refE p ts.length) (gs.length:Int) (atC p gs) ts (prtF (pfR p gs) ts) 1):=hx
    rw[←hx] at CE
    clear hx
    go_wp2_with fail
    refine CE.mono ?_
    rintro e4 w4 ⟨pe,me,ce,rfl,g4,-⟩
    have HG4:Hid (w.grownBy w4 none∧FOwn w4 w.heap.size (.slice pf (prtF (pfR p gs) ts).length cf) (prtF (pfR p gs) ts)):=⟨grown_trans HG3.out g4,own_grow HO.out g4⟩
    clear CE g4 HO HG3
    by_cases hx:x=0
    ·have ex:(x != 0)=false:=by rw[hx];rfl
     have HV:Hid (vkR p gs ts=mkE meR ts):=vkR_mk Hl.out (HX.out.symm.trans hx)
     clear hx
     go_wp2_with fail
     clear ex h2'
     go_loopw [11,12] (fun i _ wr=>∃ (k:Nat),k≤ts.length∧i=.int .i64 (k:Int)∧Hid (w4.grownBy wr none∧mkE meR ts=mkE meR (ts.drop k))) (fun i _ _=>ts.length - (intOf i).toNat)
     case atStart=>exact⟨0,Nat.zero_le _,rfl,grown_refl _ _,rfl⟩
     case round =>
      obtain⟨k,hk,rfl,HI⟩:=hrel
      obtain⟨U,hU⟩:∃ U,U=wr:=⟨_,rfl⟩
      subst hU
      by_cases hlt:k<ts.length
      ·have k1:(k:Int)<(ts.length:Int):=Int.ofNat_lt.2 hlt
       have hwk:=wrap_next (k:=k) (Nat.le_trans (Nat.le_of_lt hlt) (Nat.le_trans Hl.out (by decide)))
       have HM:Hid (ts.length - (intOf (.int .i64 ((k:Int)+1))).toNat<ts.length - (intOf (.int .i64 (k:Int))).toNat):=meas_k hlt
       obtain⟨gT,oT,cT,eT,rT⟩:=th_there (HA.out.keep (grown_trans HG4.out.1 HI.out.1)) hlt
       injection eT with eT eT2 eT3
       clear eT2 eT3
       subst eT
       obtain⟨t,ht⟩:∃ t,ts[k]?=some t:=⟨_,List.getElem?_eq_getElem hlt⟩
       rw[show ts[k]=t from (List.getElem?_eq_some_iff.1 ht).2] at rT
       have HR:Hid (U.rangeAt gT (oT+k*11) (thc t)):=rT
       have HD:Hid (mkE meR ts=mkE meR (t :: ts.drop (k+1))∧k<ts.length):=⟨mkE_drop HI.out.2 ht,hlt⟩
       have HFin:∀ W,(¬mkE meR ts=0∧mkE meR ts=2)→U.grownBy W none→StP w p gs ts (.returned (.tuple #[.slice none 0 0,.int .i64 2])) W:=fun W q g=>StP.no (HV.out.trans q.2) (by decide) (grown_trans (grown_trans HG4.out.1 HI.out.1) g)
       have HFn:Hid (∀ W,(¬mkE meR ts=0∧mkE meR ts=2)→U.grownBy W none→StP w p gs ts (.returned (.tuple #[.slice none 0 0,.int .i64 2])) W):=HFin
       clear HFin rT hlt hk ht
       go_wp2_with fail
       by_cases hp:t.place=4
       ·have hpb:(t.place == 4)=true:=by rw[hp];rfl
        have Hp:Hid (t.place=4):=hp
        have HNo:Hid (okcs t.m0 t.m1 t.m2 t.m3=false→¬mkE meR ts=0∧mkE meR ts=2):=fun q=>by
         have e:meR t=2:=by unfold meR;rw[q];rfl
         have e2:mkE meR ts=2:=by rw[HD.out.1,mkE_no Hp.out (by rw[e];decide),e]
         exact⟨by rw[e2];decide,e2⟩
        go_loopw [12] (fun m wr=>∃ (j:Nat),j≤4∧m=.int .i64 (j:Int)∧Hid (U.grownBy wr none∧MlR t.m0 t.m1 t.m2 t.m3 j)) (fun m _=>4 - (intOf m).toNat)
        case atStart=>exact⟨0,by decide,rfl,grown_refl _ _,fun h=>absurd h (by decide),fun h=>absurd h (by decide),fun h=>absurd h (by decide),fun h=>absurd h (by decide)⟩
        case round =>
         obtain⟨j,hj,rfl,HJ⟩:=hrel
         obtain⟨Q,hQ⟩:∃ Q,Q=wr:=⟨_,rfl⟩
         subst hQ
         obtain⟨c0,c1,c2,c3,c4,c5,c6,c7,c8,c9,c10⟩:=th_cells (rangeAt_keep HR.out HJ.out.1)
         rw[hp] at c2
         rcases (show j=0∨j=1∨j=2∨j=3∨j=4 from by omega) with rfl | rfl | rfl | rfl | rfl
         ·have x0:=c5
          cases h0:okc t.m0 with
          | false =>
           have HE:Hid (¬mkE meR ts=0∧mkE meR ts=2):=HNo.out (by unfold okcs;simp[h0])
           rcases okc_no h0 with l | l
           ·have l1:decide (t.m0<0)=true:=decide_eq_true l
            clear h0 l
            go_wp2_with fail
            go_ret2
            exact HFn.out _ HE.out HJ.out.1
           ·have l1:decide (t.m0<0)=false:=decide_eq_false (by omega)
            have l2:decide (99<t.m0)=true:=decide_eq_true l
            clear h0 l
            go_wp2_with fail
            go_ret2
            exact HFn.out _ HE.out HJ.out.1
          | true =>
           have HK2:Hid (MlR t.m0 t.m1 t.m2 t.m3 1):=by have q:=HJ.out.2;have r:=h0;exact⟨fun _=>r,fun h=>absurd h (by decide),fun h=>absurd h (by decide),fun h=>absurd h (by decide)⟩
           have l:=okc_yes h0
           have l1:decide (t.m0<0)=false:=decide_eq_false (by omega)
           have l2:decide (99<t.m0)=false:=decide_eq_false (by omega)
           clear h0 l
           go_wp2_with fail
           go_roundw
           case rel=>exact⟨1,by decide,by first | rfl | go_num,HJ.out.1,HK2.out⟩
           case measure=>simp[intOf]
         ·have x0:=c6
          cases h0:okc t.m1 with
          | false =>
           have HE:Hid (¬mkE meR ts=0∧mkE meR ts=2):=HNo.out (by unfold okcs;simp[h0])
           rcases okc_no h0 with l | l
           ·have l1:decide (t.m1<0)=true:=decide_eq_true l
            clear h0 l
            go_wp2_with fail
            go_ret2
            exact HFn.out _ HE.out HJ.out.1
           ·have l1:decide (t.m1<0)=false:=decide_eq_false (by omega)
            have l2:decide (99<t.m1)=true:=decide_eq_true l
            clear h0 l
            go_wp2_with fail
            go_ret2
            exact HFn.out _ HE.out HJ.out.1
          | true =>
           have HK2:Hid (MlR t.m0 t.m1 t.m2 t.m3 2):=by have q:=HJ.out.2;have r:=h0;exact⟨fun _=>q.1 (by decide),fun _=>r,fun h=>absurd h (by decide),fun h=>absurd h (by decide)⟩
           have l:=okc_yes h0
           have l1:decide (t.m1<0)=false:=decide_eq_false (by omega)
           have l2:decide (99<t.m1)=false:=decide_eq_false (by omega)
           clear h0 l
           go_wp2_with fail
           go_roundw
           case rel=>exact⟨2,by decide,by first | rfl | go_num,HJ.out.1,HK2.out⟩
           case measure=>simp[intOf]
         ·have x0:=c7
          cases h0:okc t.m2 with
          | false =>
           have HE:Hid (¬mkE meR ts=0∧mkE meR ts=2):=HNo.out (by unfold okcs;simp[h0])
           rcases okc_no h0 with l | l
           ·have l1:decide (t.m2<0)=true:=decide_eq_true l
            clear h0 l
            go_wp2_with fail
            go_ret2
            exact HFn.out _ HE.out HJ.out.1
           ·have l1:decide (t.m2<0)=false:=decide_eq_false (by omega)
            have l2:decide (99<t.m2)=true:=decide_eq_true l
            clear h0 l
            go_wp2_with fail
            go_ret2
            exact HFn.out _ HE.out HJ.out.1
          | true =>
           have HK2:Hid (MlR t.m0 t.m1 t.m2 t.m3 3):=by have q:=HJ.out.2;have r:=h0;exact⟨fun _=>q.1 (by decide),fun _=>q.2.1 (by decide),fun _=>r,fun h=>absurd h (by decide)⟩
           have l:=okc_yes h0
           have l1:decide (t.m2<0)=false:=decide_eq_false (by omega)
           have l2:decide (99<t.m2)=false:=decide_eq_false (by omega)
           clear h0 l
           go_wp2_with fail
           go_roundw
           case rel=>exact⟨3,by decide,by first | rfl | go_num,HJ.out.1,HK2.out⟩
           case measure=>simp[intOf]
         ·have x0:=c8
          cases h0:okc t.m3 with
          | false =>
           have HE:Hid (¬mkE meR ts=0∧mkE meR ts=2):=HNo.out (by unfold okcs;simp[h0])
           rcases okc_no h0 with l | l
           ·have l1:decide (t.m3<0)=true:=decide_eq_true l
            clear h0 l
            go_wp2_with fail
            go_ret2
            exact HFn.out _ HE.out HJ.out.1
           ·have l1:decide (t.m3<0)=false:=decide_eq_false (by omega)
            have l2:decide (99<t.m3)=true:=decide_eq_true l
            clear h0 l
            go_wp2_with fail
            go_ret2
            exact HFn.out _ HE.out HJ.out.1
          | true =>
           have HK2:Hid (MlR t.m0 t.m1 t.m2 t.m3 4):=by have q:=HJ.out.2;have r:=h0;exact⟨fun _=>q.1 (by decide),fun _=>q.2.1 (by decide),fun _=>q.2.2.1 (by decide),fun _=>r⟩
           have l:=okc_yes h0
           have l1:decide (t.m3<0)=false:=decide_eq_false (by omega)
           have l2:decide (99<t.m3)=false:=decide_eq_false (by omega)
           clear h0 l
           go_wp2_with fail
           go_roundw
           case rel=>exact⟨4,by decide,by first | rfl | go_num,HJ.out.1,HK2.out⟩
           case measure=>simp[intOf]
         ·have HE:Hid (okcs t.m0 t.m1 t.m2 t.m3=true):=by show _=_;have q:=HJ.out.2;unfold okcs;simp[q.1 (by decide),q.2.1 (by decide),q.2.2.1 (by decide),q.2.2.2 (by decide)]
          clear c0 c1 c2 c3 c4 c5 c6 c7 c8 c9 c10
          have HN:Hid (mkE meR ts=mkE meR (ts.drop (k+1))):=by
           show _=_
           rw[HD.out.1,mkE_yes]
           rintro⟨a,b⟩
           exact b (by unfold meR;rw[if_pos (HE.out)])
          go_wp2_with fail
          go_roundw
          case rel=>exact⟨k+1,HD.out.2,by first | rfl | (rw[hwk];rfl) | go_num,grown_trans HI.out.1 (HJ.out.1),HN.out⟩
          case measure=>first | exact HM.out | (rw[hwk];exact HM.out)
       ·have hpb:(t.place == 4)=false:=by simpa using hp
        have Hp:Hid (¬t.place=4):=hp
        clear hp
        go_loopw [12] (fun m wr=>∃ (j:Nat),j≤4∧m=.int .i64 (j:Int)∧Hid (U.grownBy wr none)) (fun m _=>4 - (intOf m).toNat)
        case atStart=>exact⟨0,by decide,rfl,grown_refl _ _⟩
        case round =>
         obtain⟨j,hj,rfl,HJ⟩:=hrel
         obtain⟨Q,hQ⟩:∃ Q,Q=wr:=⟨_,rfl⟩
         subst hQ
         obtain⟨c0,c1,c2,-⟩:=th_cells (rangeAt_keep HR.out HJ.out)
         by_cases hj4:j<4
         ·have j1:(j:Int)<4:=by omega
          have hwj:=wrap_next (k:=j) (by omega)
          have HMj:Hid (4 - (intOf (.int .i64 ((j:Int)+1))).toNat<4 - (intOf (.int .i64 (j:Int))).toNat):=meas_k hj4
          have Hj:Hid (j<4):=hj4
          clear hj hj4
          go_wp2_with fail
          go_roundw
          case rel=>exact⟨j+1,Hj.out,by first | rfl | (rw[hwj];rfl) | go_num,HJ.out⟩
          case measure=>first | exact HMj.out | (rw[hwj];exact HMj.out)
         ·have j1:¬(j:Int)<4:=by omega
          clear hj hj4 c0 c1 c2
          have HN:Hid (mkE meR ts=mkE meR (ts.drop (k+1))):=by
           show _=_
           rw[HD.out.1,mkE_yes]
           rintro⟨a,b⟩
           exact b (by unfold meR;rw[if_pos (absurd a Hp.out)])
          go_wp2_with fail
          go_roundw
          case rel=>exact⟨k+1,HD.out.2,by first | rfl | (rw[hwk];rfl) | go_num,grown_trans HI.out.1 (HJ.out),HN.out⟩
          case measure=>first | exact HM.out | (rw[hwk];exact HM.out)
      ·obtain rfl:k=ts.length:=Nat.le_antisymm hk (Nat.le_of_not_lt hlt)
       have k1:¬(ts.length:Int)<(ts.length:Int):=Int.lt_irrefl _
       have HZ:Hid (vkR p gs ts=0):=HV.out.trans (mkE_end HI.out.2)
       clear hk hlt
       go_wp2_with fail
       go_ret2
       exact⟨.slice pf (prtF (pfR p gs) ts).length cf,by rw[HZ.out];rfl,grown_trans HG4.out.1 HI.out.1,fun z=>absurd HZ.out z,fun _=>own_grow HG4.out.2 HI.out.1⟩
    ·have ex:(x != 0)=true:=by simpa using hx
     have HE:Hid (vkR p gs ts=x∧¬x=0):=⟨vkR_bg Hl.out HX.out.symm hx,hx⟩
     clear hx
     go_wp2_with fail
     go_ret2
     exact StP.no HE.out.1 HE.out.2 HG4.out.1
   ·have HE:Hid (vkR p gs ts=2):=vkR_bg Hl.out (by rw[Hr.out];exact bgE_tabless (prt_bad Hsh.out.symm ht hx)) (by decide)
    clear ht hx
    go_wp2_with fail
    go_ret2
    exact StP.no HE.out (by decide) HG3.out
 ·have h2':decide ((2048:Int)<(ts.length:Int))=true:=decide_eq_true (by omega)
  have HE:Hid (vkR p gs ts=3):=vkR_ref (refE_long hl) (by decide)
  clear hl C2
  go_wp2_with fail
  go_ret2
  exact StP.no HE.out (by decide) (grown_refl _ _)
end Go.Proofs.YthfjgpjcepmnmaaGreat
