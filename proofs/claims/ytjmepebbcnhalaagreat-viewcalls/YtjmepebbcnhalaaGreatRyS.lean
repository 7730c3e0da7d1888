/-

-/
import Derived.Test.YtjmepebbcnhalaaGreatV41
namespace Go.Proofs.YtjmepebbcnhalaaGreat
set_option maxRecDepth 100000
set_option maxHeartbeats 4000000
open Go.RowKit Go.Shelf
variable {R:List Rw} {ts:List Th} {S:List Sd} {L:List Se} {F:List Fe} {i:Nat}

structure LsN (R:List Rw) (ts:List Th) (S:List Sd) (L:List Se):Prop where
 is:L.map Se.s=S
 few:S.length≤64
 ro:∀ i,i<S.length→∃ ro,L.getD i Se.none=⟨S.getD i Sd.none,ro⟩∧ro<R.length∧(R.getD ro Rw.none).nu=(S.getD i Sd.none).th
 inn:∀ i,i<S.length→InT ts (S.getD i Sd.none)
theorem LsN.len (h:LsN R ts S L):L.length=S.length:=by rw[←h.is,List.length_map]
def NxE (R:List Rw) (F:List Fe) (ts:List Th) (S:List Sd) (L:List Se) (x:Nat):Prop:=x<S.length∧((cR R F L x=true∧∀ b,b<S.length→cR R F L b=true→ahL ts (S.getD b Sd.none) (S.getD x Sd.none)=false)∨((∀ b,b<S.length→cR R F L b=false)∧∀ b,b<S.length→ahL ts (S.getD b Sd.none) (S.getD x Sd.none)=false))
theorem NxU.end1 {a:Nat} (h:NxU ts S (cR R F L) S.length a (-1)) (hS:0<S.length):NxE R F ts S L a:=⟨h.first.2.2.1 hS,by
 rcases h.free with ⟨h1,h2⟩ | ⟨c,h1,h2,h3,h4⟩
 ·exact Or.inr ⟨h2,h.first.2.2.2⟩
 ·omega⟩
theorem NxU.end2 {a c:Nat} (h:NxU ts S (cR R F L) S.length a (c:Int)):NxE R F ts S L c:=by
 rcases h.free with ⟨h1,h2⟩ | ⟨c',h1,h2,h3,h4⟩
 ·omega
 ·obtain rfl:c=c':=by omega
  exact⟨h1,Or.inl ⟨h3,h4⟩⟩
theorem NxU.two {P:Nat→Bool} {a:Nat} {f:Int} (h:NxU ts S P i a f):f=-1∨∃ c:Nat,f=(c:Int)∧c<i:=by
 rcases h.free with ⟨h1,-⟩ | ⟨c,h1,h2,-,-⟩
 ·exact Or.inl h1
 ·exact Or.inr ⟨c,h2,h1⟩
theorem atD (h:i<S.length) {s:Sd} (e:S.getD i Sd.none=s):S[i]?=some s:=by rw[←e,aB h];exact Qg h
theorem zp (ok:Nat→Prop) (r:Nat) (v:Value) (p:Pl) (gs:List Ent) (vt vf vs:Value) (ts:List Th) (F:List Fe) (R:List Rw) (S:List Sd) (L:List Se) (w:World) (B:RD ok w r v p gs) (A:thR.At w vt ts) (AF:feR.At w vf F) (AS:sdR.At w vs S) (hT:Tab (gs.length:Int) (atC p gs) ts F R) (hl:ts.length≤2048) (hL:LsN R ts S L) (hS:0<S.length):Calls Tryz.prog 66 #[.pointer (some ⟨r,0,none⟩),vt,vf,vs] w fun e w'=>∃ x:Nat,e=.returned (.int .i64 (x:Int))∧NxE R (aq R F) ts S L x∧w.grownBy w' none:=by
 obtain⟨pt,ct,rfl⟩:=A.form
 obtain⟨pf,cf,rfl⟩:=AF.form
 obtain⟨gS,oS,cs,eS,-⟩:=gP AS hS
 subst eS
 have HV:Hid (RD ok w r v p gs∧thR.At w (.slice pt ts.length ct) ts∧feR.At w (.slice pf F.length cf) F∧sdR.At w (.slice (some ⟨gS,oS,none⟩) S.length cs) S):=⟨B,A,AF,AS⟩
 have HT:Hid (Tab (gs.length:Int) (atC p gs) ts F R∧ts.length≤2048):=⟨hT,hl⟩
 have HL:Hid (LsN R ts S L):=hL
 have HS:Hid (0<S.length):=hS
 clear B A AF AS hT hl hL hS
 go_enter Tryz.func66,Tryz.ntmps66
 go_wp2_with fail
 go_loopw [9,10,11,12,13] (fun f1 f2 y _ _ wr=>∃ (i a:Nat) (fr:Int),i≤S.length∧f2=.int .i64 (a:Int)∧y=.int .i64 (i:Int)∧f1=.int .i64 fr∧Hid (NxU ts S (cR R (aq R F) L) i a fr∧w.grownBy wr none)) (fun _ _ y _ _ _=>S.length - (intOf y).toNat)
 case atStart=>exact⟨0,0,-1,Q0 _,rfl,rfl,rfl,NxU.start _ _ _,ay _ _⟩
 case round =>
  obtain⟨i,a,fr,hi',rfl,rfl,rfl,HX⟩:=hrel
  obtain⟨U,hU⟩:=Qe (wr)
  subst hU
  by_cases hi:i<S.length
  ·have i1:(i:Int)<(S.length:Int):=Int.ofNat_lt.2 hi
   have hwk:=aK (k:=i) (Ql (Nat.le_of_lt hi) (Ql HL.out.few (by decide)))
   have HM:Hid (S.length - (intOf (.int .i64 ((i:Int)+1))).toNat<S.length - (intOf (.int .i64 (i:Int))).toNat):=bj hi
   have hal:a<S.length:=Nat.lt_of_le_of_lt HX.out.1.first.1 hi
   have a1:(a:Int)<(S.length:Int):=Int.ofNat_lt.2 hal
   have HU:Hid (thR.At U (.slice pt ts.length ct) ts∧sdR.At U (.slice (some ⟨gS,oS,none⟩) S.length cs) S):=⟨HV.out.2.1.keep HX.out.2,HV.out.2.2.2.keep HX.out.2⟩
   obtain⟨s,hs⟩:∃ s,S.getD i Sd.none=s:=⟨_,rfl⟩
   obtain⟨x,hx⟩:∃ x,S.getD a Sd.none=x:=⟨_,rfl⟩
   obtain⟨c0,c1,c2,c3,c4,c5,c6,c7,c8,c9⟩:=bN (dK HU.out.2 (atD hi hs))
   obtain⟨d0,d1,d2,d3,d4,d5,d6,d7,d8,d9⟩:=bN (dK HU.out.2 (atD hal hx))
   have CA:=nv _ ts s x U.drew (HU.out.1.keep (ai _)) (by rw[←hs];exact HL.out.inn i hi) (by rw[←hx];exact HL.out.inn a hal) HT.out.2
   obtain⟨ab,hab⟩:=Qe (ahL ts s x)
   have HAb:Hid (ahL ts (S.getD i Sd.none) (S.getD a Sd.none)=ab):=by show _=_;rw[hs,hx,hab]
   rw[←hab] at CA
   unfold sdv at CA
   have Hs:Hid (S.getD i Sd.none=s):=hs
   have Hi:Hid (i<S.length):=hi
   clear hi' hi hal hs hx hab
   go_upto_region 5 with fail
   refine wp_region_held_drew (S:=fun w'=>U.grownBy w' none) (by kernel_rfl) (ai _) (fun hHeld=>?_)
   refine QZ 0 rfl ?_
   go_frame
   refine QZ 1 rfl ?_
   go_frame
   refine QZ 2 rfl ?_
   go_frame
   refine QZ 3 rfl ?_
   go_frame
   refine QT 4 rfl (by intro w0 hSw;have c0:=QK hSw c0;have c1:=QK hSw c1;have c2:=QK hSw c2;have c3:=QK hSw c3;have c4:=QK hSw c4;have c5:=QK hSw c5;have c6:=QK hSw c6;have c7:=QK hSw c7;have c8:=QK hSw c8;have c9:=QK hSw c9;go_simp;try with_reducible rfl) ?_
   go_frame
   refine QZ 5 rfl ?_
   go_frame
   refine QZ 6 rfl ?_
   go_frame
   refine QZ 7 rfl ?_
   go_frame
   refine QT 8 rfl (by intro w0 hSw;have d0:=QK hSw d0;have d1:=QK hSw d1;have d2:=QK hSw d2;have d3:=QK hSw d3;have d4:=QK hSw d4;have d5:=QK hSw d5;have d6:=QK hSw d6;have d7:=QK hSw d7;have d8:=QK hSw d8;have d9:=QK hSw d9;go_simp;try with_reducible rfl) ?_
   go_frame
   refine QR 9 rfl (fun K hK=>?_)
   go_simp
   go_at_call 140
   refine(CA).mono ?_
   rintro e2 w2 ⟨rfl,g2⟩
   have HG2a:Hid (U.grownBy w2 none):=ae (ai _) g2
   clear g2 CA
   refine hK.out _ _ (HG2a.out) (fun hHeld2=>?_)
   clear hK K
   (try go_frame)
   refine QD ?_
   have HG2:Hid (w.grownBy w2 none):=ae HX.out.2 HG2a.out
   clear c0 c1 c2 c3 c4 c5 c6 c7 c8 c9 d0 d1 d2 d3 d4 d5 d6 d7 d8 d9 hHeld hHeld2
   cases ab with
   | true =>
    have NF:Hid (NxF ts S i i):=HX.out.1.here HAb.out
    go_wp2_with fail
    go_loopw [12,13] (fun h y wr=>∃ (k:Nat) (hb:Bool),k≤S.length∧y=.int .i64 (k:Int)∧h=.bool hb∧Hid (hb=hgK R (aq R F) L i k∧w.grownBy wr none)) (fun _ y _=>S.length - (intOf y).toNat)
    case atStart=>exact⟨0,false,Q0 _,rfl,rfl,rfl,HG2.out⟩
    case round =>
     obtain⟨k,hb,hk',rfl,rfl,HY⟩:=hrel
     obtain⟨Y,hY⟩:=Qe (wr)
     subst hY
     have HYs:Hid (RD ok Y r v p gs∧thR.At Y (.slice pt ts.length ct) ts∧feR.At Y (.slice pf F.length cf) F∧sdR.At Y (.slice (some ⟨gS,oS,none⟩) S.length cs) S):=⟨HV.out.1.keep HY.out.2,HV.out.2.1.keep HY.out.2,HV.out.2.2.1.keep HY.out.2,HV.out.2.2.2.keep HY.out.2⟩
     cases hb with
     | true =>
      have HP:Hid (cR R (aq R F) L i=false):=by show _=_;rw[kw,sL HY.out.1.symm (by rw[HL.out.len];exact hk')];rfl
      have HN:Hid (NxU ts S (cR R (aq R F) L) (i+1) i fr):=HX.out.1.stuck NF.out HP.out
      by_cases hk:k<S.length
      ·have k1:(k:Int)<(S.length:Int):=Int.ofNat_lt.2 hk
       clear hk' hk
       go_upto_region 12 with fail
       refine wp_region_held_drew (S:=fun w'=>Y.grownBy w' none) (by kernel_rfl) (ai _) (fun hHeld=>?_)
       refine QZ 0 rfl ?_
       go_frame
       refine QZ 1 rfl ?_
       go_frame
       refine QZ 2 rfl ?_
       go_frame
       refine QN 3 rfl ?_
       go_frame
       refine QN 4 rfl ?_
       go_frame
       refine QN 5 rfl ?_
       go_frame
       refine QN 6 rfl ?_
       go_frame
       refine QN 7 rfl ?_
       go_frame
       refine QN 8 rfl ?_
       go_frame
       refine QN 9 rfl ?_
       go_frame
       refine QN 10 rfl ?_
       go_frame
       refine QN 11 rfl ?_
       go_frame
       refine QN 12 rfl ?_
       go_frame
       refine QN 13 rfl ?_
       go_frame
       refine QN 14 rfl ?_
       go_frame
       refine QR 15 rfl (fun K hK=>?_)
       rw[if_neg (Bool.eq_false_iff.1 (by rfl))]
       refine hK.out _ _ (by assumption) (fun hHeld2=>?_)
       clear hK K
       (try go_frame)
       refine QN 16 rfl ?_
       go_frame
       refine QZ 17 rfl ?_
       go_frame
       refine QD ?_
       go_wp2_with fail
       go_roundw
       case rel=>exact⟨i+1,i,fr,Hi.out,rfl,by first | rfl | (rw[hwk];rfl) | go_num,rfl,HN.out,ae HY.out.2 (ai _)⟩
       case measure=>first | exact HM.out | (rw[hwk];exact HM.out)
      ·have k1:¬(k:Int)<(S.length:Int):=fun z=>hk (by omega)
       have k1d:decide ((k:Int)<(S.length:Int))=false:=Qx k1
       clear hk' hk
       go_upto_region 12 with fail
       refine wp_region_held_drew (S:=fun w'=>Y.grownBy w' none) (by kernel_rfl) (ai _) (fun hHeld=>?_)
       refine QZ 0 rfl ?_
       go_frame
       refine QZ 1 rfl ?_
       go_frame
       refine QZ 2 rfl ?_
       go_frame
       refine QN 3 rfl ?_
       go_frame
       refine QN 4 rfl ?_
       go_frame
       refine QN 5 rfl ?_
       go_frame
       refine QN 6 rfl ?_
       go_frame
       refine QN 7 rfl ?_
       go_frame
       refine QN 8 rfl ?_
       go_frame
       refine QN 9 rfl ?_
       go_frame
       refine QN 10 rfl ?_
       go_frame
       refine QN 11 rfl ?_
       go_frame
       refine QN 12 rfl ?_
       go_frame
       refine QN 13 rfl ?_
       go_frame
       refine QN 14 rfl ?_
       go_frame
       refine QR 15 rfl (fun K hK=>?_)
       rw[if_neg (Bool.eq_false_iff.1 (by rfl))]
       refine hK.out _ _ (by assumption) (fun hHeld2=>?_)
       clear hK K
       (try go_frame)
       refine QN 16 rfl ?_
       go_frame
       refine QZ 17 rfl ?_
       go_frame
       refine QD ?_
       go_wp2_with fail
       go_roundw
       case rel=>exact⟨i+1,i,fr,Hi.out,rfl,by first | rfl | (rw[hwk];rfl) | go_num,rfl,HN.out,ae HY.out.2 (ai _)⟩
       case measure=>first | exact HM.out | (rw[hwk];exact HM.out)
     | false =>
      by_cases hk:k<S.length
      ·have k1:(k:Int)<(S.length:Int):=Int.ofNat_lt.2 hk
       have hwm:=aK (k:=k) (Ql (Nat.le_of_lt hk) (Ql HL.out.few (by decide)))
       have HMk:Hid (S.length - (intOf (.int .i64 ((k:Int)+1))).toNat<S.length - (intOf (.int .i64 (k:Int))).toNat):=bj hk
       by_cases hki:k=i
       ·have dk:((k:Int) != (i:Int))=false:=by rw[hki];simp
        have HN:Hid (false=hgK R (aq R F) L i (k+1)):=by show _=_;rw[kz,←HY.out.1,Qy hki];rfl
        have Hk:Hid (k<S.length):=hk
        clear hk' hk hki
        go_upto_region 11 with fail
        refine wp_region_held_drew (S:=fun w'=>Y.grownBy w' none) (by kernel_rfl) (ai _) (fun hHeld=>?_)
        refine QZ 0 rfl ?_
        go_frame
        refine QZ 1 rfl ?_
        go_frame
        refine QZ 2 rfl ?_
        go_frame
        refine QZ 3 rfl ?_
        go_frame
        refine QN 4 rfl ?_
        go_frame
        refine QN 5 rfl ?_
        go_frame
        refine QN 6 rfl ?_
        go_frame
        refine QN 7 rfl ?_
        go_frame
        refine QN 8 rfl ?_
        go_frame
        refine QN 9 rfl ?_
        go_frame
        refine QN 10 rfl ?_
        go_frame
        refine QN 11 rfl ?_
        go_frame
        refine QN 12 rfl ?_
        go_frame
        refine QN 13 rfl ?_
        go_frame
        refine QN 14 rfl ?_
        go_frame
        refine QR 15 rfl (fun K hK=>?_)
        rw[if_neg (Bool.eq_false_iff.1 (by rfl))]
        refine hK.out _ _ (by assumption) (fun hHeld2=>?_)
        clear hK K
        (try go_frame)
        refine QZ 16 rfl ?_
        go_frame
        refine QZ 17 rfl ?_
        go_frame
        refine QD ?_
        go_wp2_with fail
        go_roundw
        case rel=>exact⟨k+1,false,Hk.out,by first | rfl | (rw[hwm];rfl) | go_num,rfl,HN.out,ae HY.out.2 (ai _)⟩
        case measure=>first | exact HMk.out | (rw[hwm];exact HMk.out)
       ·have dk:((k:Int) != (i:Int))=true:=by simpa using fun e:(k:Int)=(i:Int)=>hki (by omega)
        obtain⟨q,hq⟩:∃ q,S.getD k Sd.none=q:=⟨_,rfl⟩
        obtain⟨rq,b1,b2,b3⟩:=HL.out.ro k hk
        obtain⟨rs,a1,a2,a3⟩:=HL.out.ro i Hi.out
        rw[hq] at b1 b3
        rw[Hs.out] at a1 a3
        obtain⟨c0,c1,c2,c3,c4,c5,c6,c7,c8,c9⟩:=bN (dK HYs.out.2.2.2 (atD Hi.out Hs.out))
        obtain⟨d0,d1,d2,d3,d4,d5,d6,d7,d8,d9⟩:=bN (dK HYs.out.2.2.2 (atD hk hq))
        have CD:=kH ok r v p gs _ _ ts F R s rs q rq Y.drew (HYs.out.1.keep (ai _)) (HYs.out.2.1.keep (ai _)) (HYs.out.2.2.1.keep (ai _)) HT.out.1 a2 a3 b2 b3 HT.out.2
        obtain⟨db,hdb⟩:=Qe (ib R (aq R F) ⟨s,rs⟩ ⟨q,rq⟩)
        have HN:Hid (db=hgK R (aq R F) L i (k+1)):=by show _=_;rw[kz,←HY.out.1,Qx hki,a1,b1,hdb];rfl
        rw[←hdb] at CD
        unfold sdv at CD
        have Hk:Hid (k<S.length):=hk
        clear hk' hk hki hq b1 b2 b3 a1 a2 a3 hdb
        go_upto_region 11 with fail
        refine wp_region_held_drew (S:=fun w'=>Y.grownBy w' none) (by kernel_rfl) (ai _) (fun hHeld=>?_)
        refine QZ 0 rfl ?_
        go_frame
        refine QZ 1 rfl ?_
        go_frame
        refine QZ 2 rfl ?_
        go_frame
        refine QZ 3 rfl ?_
        go_frame
        refine QZ 4 rfl ?_
        go_frame
        refine QZ 5 rfl ?_
        go_frame
        refine QZ 6 rfl ?_
        go_frame
        refine QZ 7 rfl ?_
        go_frame
        refine QZ 8 rfl ?_
        go_frame
        refine QZ 9 rfl ?_
        go_frame
        refine QT 10 rfl (by intro w0 hSw;have c0:=QK hSw c0;have c1:=QK hSw c1;have c2:=QK hSw c2;have c3:=QK hSw c3;have c4:=QK hSw c4;have c5:=QK hSw c5;have c6:=QK hSw c6;have c7:=QK hSw c7;have c8:=QK hSw c8;have c9:=QK hSw c9;go_simp;try with_reducible rfl) ?_
        go_frame
        refine QZ 11 rfl ?_
        go_frame
        refine QZ 12 rfl ?_
        go_frame
        refine QZ 13 rfl ?_
        go_frame
        refine QT 14 rfl (by intro w0 hSw;have d0:=QK hSw d0;have d1:=QK hSw d1;have d2:=QK hSw d2;have d3:=QK hSw d3;have d4:=QK hSw d4;have d5:=QK hSw d5;have d6:=QK hSw d6;have d7:=QK hSw d7;have d8:=QK hSw d8;have d9:=QK hSw d9;go_simp;try with_reducible rfl) ?_
        go_frame
        refine QR 15 rfl (fun K hK=>?_)
        rw[if_pos (by rfl)]
        go_simp
        go_at_call 141
        refine(CD).mono ?_
        rintro e3 w3 ⟨rfl,g3⟩
        have HG3:Hid (Y.grownBy w3 none):=ae (ai _) g3
        clear g3 CD
        refine hK.out _ _ (HG3.out) (fun hHeld2=>?_)
        clear hK K
        (try go_frame)
        refine QZ 16 rfl ?_
        go_frame
        refine QZ 17 rfl ?_
        go_frame
        refine QD ?_
        clear c0 c1 c2 c3 c4 c5 c6 c7 c8 c9 d0 d1 d2 d3 d4 d5 d6 d7 d8 d9 hHeld
        go_wp2_with fail
        go_roundw
        case rel=>exact⟨k+1,db,Hk.out,by first | rfl | (rw[hwm];rfl) | go_num,rfl,HN.out,ae HY.out.2 HG3.out⟩
        case measure=>first | exact HMk.out | (rw[hwm];exact HMk.out)
      ·have hkn:k=S.length:=Nat.le_antisymm hk' (Nat.le_of_not_lt hk)
       have k1:¬(k:Int)<(S.length:Int):=fun z=>hk (by omega)
       have k1d:decide ((k:Int)<(S.length:Int))=false:=Qx k1
       have HP:Hid (cR R (aq R F) L i=true):=by show _=_;rw[kw,HL.out.len,←hkn,←HY.out.1];rfl
       clear hk' hk hkn
       rcases HX.out.1.two with hf | ⟨c,hf,hci⟩
       ·subst hf
        have HN:Hid (NxU ts S (cR R (aq R F) L) (i+1) i (i:Int)):=HX.out.1.new NF.out HP.out
        go_upto_region 12 with fail
        refine wp_region_held_drew (S:=fun w'=>Y.grownBy w' none) (by kernel_rfl) (ai _) (fun hHeld=>?_)
        refine QZ 0 rfl ?_
        go_frame
        refine QZ 1 rfl ?_
        go_frame
        refine QZ 2 rfl ?_
        go_frame
        refine QZ 3 rfl ?_
        go_frame
        refine QZ 4 rfl ?_
        go_frame
        refine QZ 5 rfl ?_
        go_frame
        refine QN 6 rfl ?_
        go_frame
        refine QN 7 rfl ?_
        go_frame
        refine QN 8 rfl ?_
        go_frame
        refine QN 9 rfl ?_
        go_frame
        refine QN 10 rfl ?_
        go_frame
        refine QN 11 rfl ?_
        go_frame
        refine QN 12 rfl ?_
        go_frame
        refine QN 13 rfl ?_
        go_frame
        refine QN 14 rfl ?_
        go_frame
        refine QR 15 rfl (fun K hK=>?_)
        rw[if_neg (Bool.eq_false_iff.1 (by rfl))]
        refine hK.out _ _ (by assumption) (fun hHeld2=>?_)
        clear hK K
        (try go_frame)
        refine QZ 16 rfl ?_
        go_frame
        refine QZ 17 rfl ?_
        go_frame
        refine QD ?_
        go_wp2_with fail
        go_roundw
        case rel=>exact⟨i+1,i,(i:Int),Hi.out,rfl,by first | rfl | (rw[hwk];rfl) | go_num,rfl,HN.out,ae HY.out.2 (ai _)⟩
        case measure=>first | exact HM.out | (rw[hwk];exact HM.out)
       ·subst hf
        have cn:¬(c:Int)<0:=by omega
        have hcl:c<S.length:=Nat.lt_trans hci Hi.out
        have c1':(c:Int)<(S.length:Int):=Int.ofNat_lt.2 hcl
        obtain⟨q,hq⟩:∃ q,S.getD c Sd.none=q:=⟨_,rfl⟩
        obtain⟨c0,c1,c2,c3,c4,c5,c6,c7,c8,c9⟩:=bN (dK HYs.out.2.2.2 (atD Hi.out Hs.out))
        obtain⟨d0,d1,d2,d3,d4,d5,d6,d7,d8,d9⟩:=bN (dK HYs.out.2.2.2 (atD hcl hq))
        have CA:=nv _ ts s q Y.drew (HYs.out.2.1.keep (ai _)) (by rw[←Hs.out];exact HL.out.inn i Hi.out) (by rw[←hq];exact HL.out.inn c hcl) HT.out.2
        obtain⟨ab,hab⟩:=Qe (ahL ts s q)
        have HAb:Hid (ahL ts (S.getD i Sd.none) (S.getD c Sd.none)=ab):=by show _=_;rw[Hs.out,hq,hab]
        rw[←hab] at CA
        unfold sdv at CA
        clear hci hcl hq hab
        go_upto_region 12 with fail
        refine wp_region_held_drew (S:=fun w'=>Y.grownBy w' none) (by kernel_rfl) (ai _) (fun hHeld=>?_)
        refine QZ 0 rfl ?_
        go_frame
        refine QZ 1 rfl ?_
        go_frame
        refine QZ 2 rfl ?_
        go_frame
        refine QZ 3 rfl ?_
        go_frame
        refine QZ 4 rfl ?_
        go_frame
        refine QZ 5 rfl ?_
        go_frame
        refine QZ 6 rfl ?_
        go_frame
        refine QZ 7 rfl ?_
        go_frame
        refine QZ 8 rfl ?_
        go_frame
        refine QZ 9 rfl ?_
        go_frame
        refine QT 10 rfl (by intro w0 hSw;have c0:=QK hSw c0;have c1:=QK hSw c1;have c2:=QK hSw c2;have c3:=QK hSw c3;have c4:=QK hSw c4;have c5:=QK hSw c5;have c6:=QK hSw c6;have c7:=QK hSw c7;have c8:=QK hSw c8;have c9:=QK hSw c9;go_simp;try with_reducible rfl) ?_
        go_frame
        refine QZ 11 rfl ?_
        go_frame
        refine QZ 12 rfl ?_
        go_frame
        refine QZ 13 rfl ?_
        go_frame
        refine QT 14 rfl (by intro w0 hSw;have d0:=QK hSw d0;have d1:=QK hSw d1;have d2:=QK hSw d2;have d3:=QK hSw d3;have d4:=QK hSw d4;have d5:=QK hSw d5;have d6:=QK hSw d6;have d7:=QK hSw d7;have d8:=QK hSw d8;have d9:=QK hSw d9;go_simp;try with_reducible rfl) ?_
        go_frame
        refine QR 15 rfl (fun K hK=>?_)
        rw[if_pos (by rfl)]
        go_simp
        go_at_call 140
        refine(CA).mono ?_
        rintro e3 w3 ⟨rfl,g3⟩
        have HG3:Hid (Y.grownBy w3 none):=ae (ai _) g3
        clear g3 CA
        refine hK.out _ _ (HG3.out) (fun hHeld2=>?_)
        clear hK K
        (try go_frame)
        refine QZ 16 rfl ?_
        go_frame
        refine QZ 17 rfl ?_
        go_frame
        refine QD ?_
        clear c0 c1 c2 c3 c4 c5 c6 c7 c8 c9 d0 d1 d2 d3 d4 d5 d6 d7 d8 d9 hHeld
        cases ab with
        | true =>
         have HN:Hid (NxU ts S (cR R (aq R F) L) (i+1) i (i:Int)):=HX.out.1.less NF.out HP.out HAb.out
         go_wp2_with fail
         go_roundw
         case rel=>exact⟨i+1,i,(i:Int),Hi.out,rfl,by first | rfl | (rw[hwk];rfl) | go_num,rfl,HN.out,ae HY.out.2 HG3.out⟩
         case measure=>first | exact HM.out | (rw[hwk];exact HM.out)
        | false =>
         have HN:Hid (NxU ts S (cR R (aq R F) L) (i+1) i (c:Int)):=HX.out.1.more NF.out HP.out HAb.out
         go_wp2_with fail
         go_roundw
         case rel=>exact⟨i+1,i,(c:Int),Hi.out,rfl,by first | rfl | (rw[hwk];rfl) | go_num,rfl,HN.out,ae HY.out.2 HG3.out⟩
         case measure=>first | exact HM.out | (rw[hwk];exact HM.out)
   | false =>
    have NF:Hid (NxF ts S i a):=HX.out.1.there HAb.out
    go_wp2_with fail
    go_loopw [12,13] (fun h y wr=>∃ (k:Nat) (hb:Bool),k≤S.length∧y=.int .i64 (k:Int)∧h=.bool hb∧Hid (hb=hgK R (aq R F) L i k∧w.grownBy wr none)) (fun _ y _=>S.length - (intOf y).toNat)
    case atStart=>exact⟨0,false,Q0 _,rfl,rfl,rfl,HG2.out⟩
    case round =>
     obtain⟨k,hb,hk',rfl,rfl,HY⟩:=hrel
     obtain⟨Y,hY⟩:=Qe (wr)
     subst hY
     have HYs:Hid (RD ok Y r v p gs∧thR.At Y (.slice pt ts.length ct) ts∧feR.At Y (.slice pf F.length cf) F∧sdR.At Y (.slice (some ⟨gS,oS,none⟩) S.length cs) S):=⟨HV.out.1.keep HY.out.2,HV.out.2.1.keep HY.out.2,HV.out.2.2.1.keep HY.out.2,HV.out.2.2.2.keep HY.out.2⟩
     cases hb with
     | true =>
      have HP:Hid (cR R (aq R F) L i=false):=by show _=_;rw[kw,sL HY.out.1.symm (by rw[HL.out.len];exact hk')];rfl
      have HN:Hid (NxU ts S (cR R (aq R F) L) (i+1) a fr):=HX.out.1.stuck NF.out HP.out
      by_cases hk:k<S.length
      ·have k1:(k:Int)<(S.length:Int):=Int.ofNat_lt.2 hk
       clear hk' hk
       go_upto_region 12 with fail
       refine wp_region_held_drew (S:=fun w'=>Y.grownBy w' none) (by kernel_rfl) (ai _) (fun hHeld=>?_)
       refine QZ 0 rfl ?_
       go_frame
       refine QZ 1 rfl ?_
       go_frame
       refine QZ 2 rfl ?_
       go_frame
       refine QN 3 rfl ?_
       go_frame
       refine QN 4 rfl ?_
       go_frame
       refine QN 5 rfl ?_
       go_frame
       refine QN 6 rfl ?_
       go_frame
       refine QN 7 rfl ?_
       go_frame
       refine QN 8 rfl ?_
       go_frame
       refine QN 9 rfl ?_
       go_frame
       refine QN 10 rfl ?_
       go_frame
       refine QN 11 rfl ?_
       go_frame
       refine QN 12 rfl ?_
       go_frame
       refine QN 13 rfl ?_
       go_frame
       refine QN 14 rfl ?_
       go_frame
       refine QR 15 rfl (fun K hK=>?_)
       rw[if_neg (Bool.eq_false_iff.1 (by rfl))]
       refine hK.out _ _ (by assumption) (fun hHeld2=>?_)
       clear hK K
       (try go_frame)
       refine QN 16 rfl ?_
       go_frame
       refine QZ 17 rfl ?_
       go_frame
       refine QD ?_
       go_wp2_with fail
       go_roundw
       case rel=>exact⟨i+1,a,fr,Hi.out,rfl,by first | rfl | (rw[hwk];rfl) | go_num,rfl,HN.out,ae HY.out.2 (ai _)⟩
       case measure=>first | exact HM.out | (rw[hwk];exact HM.out)
      ·have k1:¬(k:Int)<(S.length:Int):=fun z=>hk (by omega)
       have k1d:decide ((k:Int)<(S.length:Int))=false:=Qx k1
       clear hk' hk
       go_upto_region 12 with fail
       refine wp_region_held_drew (S:=fun w'=>Y.grownBy w' none) (by kernel_rfl) (ai _) (fun hHeld=>?_)
       refine QZ 0 rfl ?_
       go_frame
       refine QZ 1 rfl ?_
       go_frame
       refine QZ 2 rfl ?_
       go_frame
       refine QN 3 rfl ?_
       go_frame
       refine QN 4 rfl ?_
       go_frame
       refine QN 5 rfl ?_
       go_frame
       refine QN 6 rfl ?_
       go_frame
       refine QN 7 rfl ?_
       go_frame
       refine QN 8 rfl ?_
       go_frame
       refine QN 9 rfl ?_
       go_frame
       refine QN 10 rfl ?_
       go_frame
       refine QN 11 rfl ?_
       go_frame
       refine QN 12 rfl ?_
       go_frame
       refine QN 13 rfl ?_
       go_frame
       refine QN 14 rfl ?_
       go_frame
       refine QR 15 rfl (fun K hK=>?_)
       rw[if_neg (Bool.eq_false_iff.1 (by rfl))]
       refine hK.out _ _ (by assumption) (fun hHeld2=>?_)
       clear hK K
       (try go_frame)
       refine QN 16 rfl ?_
       go_frame
       refine QZ 17 rfl ?_
       go_frame
       refine QD ?_
       go_wp2_with fail
       go_roundw
       case rel=>exact⟨i+1,a,fr,Hi.out,rfl,by first | rfl | (rw[hwk];rfl) | go_num,rfl,HN.out,ae HY.out.2 (ai _)⟩
       case measure=>first | exact HM.out | (rw[hwk];exact HM.out)
     | false =>
      by_cases hk:k<S.length
      ·have k1:(k:Int)<(S.length:Int):=Int.ofNat_lt.2 hk
       have hwm:=aK (k:=k) (Ql (Nat.le_of_lt hk) (Ql HL.out.few (by decide)))
       have HMk:Hid (S.length - (intOf (.int .i64 ((k:Int)+1))).toNat<S.length - (intOf (.int .i64 (k:Int))).toNat):=bj hk
       by_cases hki:k=i
       ·have dk:((k:Int) != (i:Int))=false:=by rw[hki];simp
        have HN:Hid (false=hgK R (aq R F) L i (k+1)):=by show _=_;rw[kz,←HY.out.1,Qy hki];rfl
        have Hk:Hid (k<S.length):=hk
        clear hk' hk hki
        go_upto_region 11 with fail
        refine wp_region_held_drew (S:=fun w'=>Y.grownBy w' none) (by kernel_rfl) (ai _) (fun hHeld=>?_)
        refine QZ 0 rfl ?_
        go_frame
        refine QZ 1 rfl ?_
        go_frame
        refine QZ 2 rfl ?_
        go_frame
        refine QZ 3 rfl ?_
        go_frame
        refine QN 4 rfl ?_
        go_frame
        refine QN 5 rfl ?_
        go_frame
        refine QN 6 rfl ?_
        go_frame
        refine QN 7 rfl ?_
        go_frame
        refine QN 8 rfl ?_
        go_frame
        refine QN 9 rfl ?_
        go_frame
        refine QN 10 rfl ?_
        go_frame
        refine QN 11 rfl ?_
        go_frame
        refine QN 12 rfl ?_
        go_frame
        refine QN 13 rfl ?_
        go_frame
        refine QN 14 rfl ?_
        go_frame
        refine QR 15 rfl (fun K hK=>?_)
        rw[if_neg (Bool.eq_false_iff.1 (by rfl))]
        refine hK.out _ _ (by assumption) (fun hHeld2=>?_)
        clear hK K
        (try go_frame)
        refine QZ 16 rfl ?_
        go_frame
        refine QZ 17 rfl ?_
        go_frame
        refine QD ?_
        go_wp2_with fail
        go_roundw
        case rel=>exact⟨k+1,false,Hk.out,by first | rfl | (rw[hwm];rfl) | go_num,rfl,HN.out,ae HY.out.2 (ai _)⟩
        case measure=>first | exact HMk.out | (rw[hwm];exact HMk.out)
       ·have dk:((k:Int) != (i:Int))=true:=by simpa using fun e:(k:Int)=(i:Int)=>hki (by omega)
        obtain⟨q,hq⟩:∃ q,S.getD k Sd.none=q:=⟨_,rfl⟩
        obtain⟨rq,b1,b2,b3⟩:=HL.out.ro k hk
        obtain⟨rs,a1,a2,a3⟩:=HL.out.ro i Hi.out
        rw[hq] at b1 b3
        rw[Hs.out] at a1 a3
        obtain⟨c0,c1,c2,c3,c4,c5,c6,c7,c8,c9⟩:=bN (dK HYs.out.2.2.2 (atD Hi.out Hs.out))
        obtain⟨d0,d1,d2,d3,d4,d5,d6,d7,d8,d9⟩:=bN (dK HYs.out.2.2.2 (atD hk hq))
        have CD:=kH ok r v p gs _ _ ts F R s rs q rq Y.drew (HYs.out.1.keep (ai _)) (HYs.out.2.1.keep (ai _)) (HYs.out.2.2.1.keep (ai _)) HT.out.1 a2 a3 b2 b3 HT.out.2
        obtain⟨db,hdb⟩:=Qe (ib R (aq R F) ⟨s,rs⟩ ⟨q,rq⟩)
        have HN:Hid (db=hgK R (aq R F) L i (k+1)):=by show _=_;rw[kz,←HY.out.1,Qx hki,a1,b1,hdb];rfl
        rw[←hdb] at CD
        unfold sdv at CD
        have Hk:Hid (k<S.length):=hk
        clear hk' hk hki hq b1 b2 b3 a1 a2 a3 hdb
        go_upto_region 11 with fail
        refine wp_region_held_drew (S:=fun w'=>Y.grownBy w' none) (by kernel_rfl) (ai _) (fun hHeld=>?_)
        refine QZ 0 rfl ?_
        go_frame
        refine QZ 1 rfl ?_
        go_frame
        refine QZ 2 rfl ?_
        go_frame
        refine QZ 3 rfl ?_
        go_frame
        refine QZ 4 rfl ?_
        go_frame
        refine QZ 5 rfl ?_
        go_frame
        refine QZ 6 rfl ?_
        go_frame
        refine QZ 7 rfl ?_
        go_frame
        refine QZ 8 rfl ?_
        go_frame
        refine QZ 9 rfl ?_
        go_frame
        refine QT 10 rfl (by intro w0 hSw;have c0:=QK hSw c0;have c1:=QK hSw c1;have c2:=QK hSw c2;have c3:=QK hSw c3;have c4:=QK hSw c4;have c5:=QK hSw c5;have c6:=QK hSw c6;have c7:=QK hSw c7;have c8:=QK hSw c8;have c9:=QK hSw c9;go_simp;try with_reducible rfl) ?_
        go_frame
        refine QZ 11 rfl ?_
        go_frame
        refine QZ 12 rfl ?_
        go_frame
        refine QZ 13 rfl ?_
        go_frame
        refine QT 14 rfl (by intro w0 hSw;have d0:=QK hSw d0;have d1:=QK hSw d1;have d2:=QK hSw d2;have d3:=QK hSw d3;have d4:=QK hSw d4;have d5:=QK hSw d5;have d6:=QK hSw d6;have d7:=QK hSw d7;have d8:=QK hSw d8;have d9:=QK hSw d9;go_simp;try with_reducible rfl) ?_
        go_frame
        refine QR 15 rfl (fun K hK=>?_)
        rw[if_pos (by rfl)]
        go_simp
        go_at_call 141
        refine(CD).mono ?_
        rintro e3 w3 ⟨rfl,g3⟩
        have HG3:Hid (Y.grownBy w3 none):=ae (ai _) g3
        clear g3 CD
        refine hK.out _ _ (HG3.out) (fun hHeld2=>?_)
        clear hK K
        (try go_frame)
        refine QZ 16 rfl ?_
        go_frame
        refine QZ 17 rfl ?_
        go_frame
        refine QD ?_
        clear c0 c1 c2 c3 c4 c5 c6 c7 c8 c9 d0 d1 d2 d3 d4 d5 d6 d7 d8 d9 hHeld
        go_wp2_with fail
        go_roundw
        case rel=>exact⟨k+1,db,Hk.out,by first | rfl | (rw[hwm];rfl) | go_num,rfl,HN.out,ae HY.out.2 HG3.out⟩
        case measure=>first | exact HMk.out | (rw[hwm];exact HMk.out)
      ·have hkn:k=S.length:=Nat.le_antisymm hk' (Nat.le_of_not_lt hk)
       have k1:¬(k:Int)<(S.length:Int):=fun z=>hk (by omega)
       have k1d:decide ((k:Int)<(S.length:Int))=false:=Qx k1
       have HP:Hid (cR R (aq R F) L i=true):=by show _=_;rw[kw,HL.out.len,←hkn,←HY.out.1];rfl
       clear hk' hk hkn
       rcases HX.out.1.two with hf | ⟨c,hf,hci⟩
       ·subst hf
        have HN:Hid (NxU ts S (cR R (aq R F) L) (i+1) a (i:Int)):=HX.out.1.new NF.out HP.out
        go_upto_region 12 with fail
        refine wp_region_held_drew (S:=fun w'=>Y.grownBy w' none) (by kernel_rfl) (ai _) (fun hHeld=>?_)
        refine QZ 0 rfl ?_
        go_frame
        refine QZ 1 rfl ?_
        go_frame
        refine QZ 2 rfl ?_
        go_frame
        refine QZ 3 rfl ?_
        go_frame
        refine QZ 4 rfl ?_
        go_frame
        refine QZ 5 rfl ?_
        go_frame
        refine QN 6 rfl ?_
        go_frame
        refine QN 7 rfl ?_
        go_frame
        refine QN 8 rfl ?_
        go_frame
        refine QN 9 rfl ?_
        go_frame
        refine QN 10 rfl ?_
        go_frame
        refine QN 11 rfl ?_
        go_frame
        refine QN 12 rfl ?_
        go_frame
        refine QN 13 rfl ?_
        go_frame
        refine QN 14 rfl ?_
        go_frame
        refine QR 15 rfl (fun K hK=>?_)
        rw[if_neg (Bool.eq_false_iff.1 (by rfl))]
        refine hK.out _ _ (by assumption) (fun hHeld2=>?_)
        clear hK K
        (try go_frame)
        refine QZ 16 rfl ?_
        go_frame
        refine QZ 17 rfl ?_
        go_frame
        refine QD ?_
        go_wp2_with fail
        go_roundw
        case rel=>exact⟨i+1,a,(i:Int),Hi.out,rfl,by first | rfl | (rw[hwk];rfl) | go_num,rfl,HN.out,ae HY.out.2 (ai _)⟩
        case measure=>first | exact HM.out | (rw[hwk];exact HM.out)
       ·subst hf
        have cn:¬(c:Int)<0:=by omega
        have hcl:c<S.length:=Nat.lt_trans hci Hi.out
        have c1':(c:Int)<(S.length:Int):=Int.ofNat_lt.2 hcl
        obtain⟨q,hq⟩:∃ q,S.getD c Sd.none=q:=⟨_,rfl⟩
        obtain⟨c0,c1,c2,c3,c4,c5,c6,c7,c8,c9⟩:=bN (dK HYs.out.2.2.2 (atD Hi.out Hs.out))
        obtain⟨d0,d1,d2,d3,d4,d5,d6,d7,d8,d9⟩:=bN (dK HYs.out.2.2.2 (atD hcl hq))
        have CA:=nv _ ts s q Y.drew (HYs.out.2.1.keep (ai _)) (by rw[←Hs.out];exact HL.out.inn i Hi.out) (by rw[←hq];exact HL.out.inn c hcl) HT.out.2
        obtain⟨ab,hab⟩:=Qe (ahL ts s q)
        have HAb:Hid (ahL ts (S.getD i Sd.none) (S.getD c Sd.none)=ab):=by show _=_;rw[Hs.out,hq,hab]
        rw[←hab] at CA
        unfold sdv at CA
        clear hci hcl hq hab
        go_upto_region 12 with fail
        refine wp_region_held_drew (S:=fun w'=>Y.grownBy w' none) (by kernel_rfl) (ai _) (fun hHeld=>?_)
        refine QZ 0 rfl ?_
        go_frame
        refine QZ 1 rfl ?_
        go_frame
        refine QZ 2 rfl ?_
        go_frame
        refine QZ 3 rfl ?_
        go_frame
        refine QZ 4 rfl ?_
        go_frame
        refine QZ 5 rfl ?_
        go_frame
        refine QZ 6 rfl ?_
        go_frame
        refine QZ 7 rfl ?_
        go_frame
        refine QZ 8 rfl ?_
        go_frame
        refine QZ 9 rfl ?_
        go_frame
        refine QT 10 rfl (by intro w0 hSw;have c0:=QK hSw c0;have c1:=QK hSw c1;have c2:=QK hSw c2;have c3:=QK hSw c3;have c4:=QK hSw c4;have c5:=QK hSw c5;have c6:=QK hSw c6;have c7:=QK hSw c7;have c8:=QK hSw c8;have c9:=QK hSw c9;go_simp;try with_reducible rfl) ?_
        go_frame
        refine QZ 11 rfl ?_
        go_frame
        refine QZ 12 rfl ?_
        go_frame
        refine QZ 13 rfl ?_
        go_frame
        refine QT 14 rfl (by intro w0 hSw;have d0:=QK hSw d0;have d1:=QK hSw d1;have d2:=QK hSw d2;have d3:=QK hSw d3;have d4:=QK hSw d4;have d5:=QK hSw d5;have d6:=QK hSw d6;have d7:=QK hSw d7;have d8:=QK hSw d8;have d9:=QK hSw d9;go_simp;try with_reducible rfl) ?_
        go_frame
        refine QR 15 rfl (fun K hK=>?_)
        rw[if_pos (by rfl)]
        go_simp
        go_at_call 140
        refine(CA).mono ?_
        rintro e3 w3 ⟨rfl,g3⟩
        have HG3:Hid (Y.grownBy w3 none):=ae (ai _) g3
        clear g3 CA
        refine hK.out _ _ (HG3.out) (fun hHeld2=>?_)
        clear hK K
        (try go_frame)
        refine QZ 16 rfl ?_
        go_frame
        refine QZ 17 rfl ?_
        go_frame
        refine QD ?_
        clear c0 c1 c2 c3 c4 c5 c6 c7 c8 c9 d0 d1 d2 d3 d4 d5 d6 d7 d8 d9 hHeld
        cases ab with
        | true =>
         have HN:Hid (NxU ts S (cR R (aq R F) L) (i+1) a (i:Int)):=HX.out.1.less NF.out HP.out HAb.out
         go_wp2_with fail
         go_roundw
         case rel=>exact⟨i+1,a,(i:Int),Hi.out,rfl,by first | rfl | (rw[hwk];rfl) | go_num,rfl,HN.out,ae HY.out.2 HG3.out⟩
         case measure=>first | exact HM.out | (rw[hwk];exact HM.out)
        | false =>
         have HN:Hid (NxU ts S (cR R (aq R F) L) (i+1) a (c:Int)):=HX.out.1.more NF.out HP.out HAb.out
         go_wp2_with fail
         go_roundw
         case rel=>exact⟨i+1,a,(c:Int),Hi.out,rfl,by first | rfl | (rw[hwk];rfl) | go_num,rfl,HN.out,ae HY.out.2 HG3.out⟩
         case measure=>first | exact HM.out | (rw[hwk];exact HM.out)
  ·obtain rfl:i=S.length:=Nat.le_antisymm hi' (Nat.le_of_not_lt hi)
   have i1:¬(S.length:Int)<(S.length:Int):=Int.lt_irrefl _
   clear hi' hi
   rcases HX.out.1.two with hf | ⟨c,hf,hci⟩
   ·subst hf
    have HN:Hid (NxE R (aq R F) ts S L a):=HX.out.1.end1 HS.out
    go_wp2_with fail
    go_ret
    exact⟨a,rfl,HN.out,HX.out.2⟩
   ·subst hf
    have cn:¬(c:Int)<0:=by omega
    have HN:Hid (NxE R (aq R F) ts S L c):=HX.out.1.end2
    clear hci
    go_wp2_with fail
    go_ret
    exact⟨c,rfl,HN.out,HX.out.2⟩
end Go.Proofs.YtjmepebbcnhalaaGreat
