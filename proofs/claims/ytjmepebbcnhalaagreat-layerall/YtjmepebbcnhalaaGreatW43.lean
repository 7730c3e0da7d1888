import Derived.Test.YtjmepebbcnhalaaGreatW0
import Derived.Test.YtjmepebbcnhalaaGreatW42
namespace Go.Proofs.YtjmepebbcnhalaaGreat
set_option maxRecDepth 100000
set_option maxHeartbeats 4000000
open Go.RowKit Go.Shelf
theorem l8 (ok:Nat→Prop) (r:Nat) (v:Value) (p:Pl) (gs:List Ent) (vt vs:Value) (ts:List Th) (F:List Fe) (R:List Rw) (S:List Sd) (w:World) (B:RD ok w r v p gs) (A:thR.At w vt ts) (AS:sdR.At w vs S) (hT:Tab (gs.length:Int) (atC p gs) ts F R) (hc:∀ c,(atC p gs c).2.length≤4) (hl:ts.length≤2048):Calls Tryz.prog 65 #[.pointer (some ⟨r,0,none⟩),vt,vs] w fun e w'=>e=.returned (.bool (aN R S []).isSome)∧w.grownBy w' none:=by
 obtain⟨pt,ct,rfl⟩:=A.form
 obtain⟨ps,cs,rfl⟩:=AS.form
 have HV:Hid (RD ok w r v p gs∧thR.At w (.slice pt ts.length ct) ts∧sdR.At w (.slice ps S.length cs) S):=⟨B,A,AS⟩
 have HT:Hid (Tab (gs.length:Int) (atC p gs) ts F R∧ts.length≤2048):=⟨hT,hl⟩
 have H64:Hid (∀ L,aN R S []=some L→S.length≤64):=fun L q=>hT.list64 hc q
 clear B A AS hT hc hl
 go_enter Tryz.func65,Tryz.ntmps65
 by_cases h64:S.length≤64
 ·have d64:decide ((64:Int)<(S.length:Int))=false:=decide_eq_false (by omega)
  have HS:Hid (S.length≤64):=h64
  clear h64
  go_wp2_with fail
  go_loopw [7,8] (fun y _ wr=>∃ k:Nat,k≤S.length∧y=.int .i64 (k:Int)∧Hid (LsU R S k∧w.grownBy wr none)) (fun y _ _=>S.length - (intOf y).toNat)
  case atStart=>exact⟨0,Nat.zero_le _,rfl,LsU.start _ _,ay _ _⟩
  case round =>
   obtain⟨k,hk',rfl,HX⟩:=hrel
   obtain⟨U,hU⟩:∃ U,U=wr:=⟨_,rfl⟩
   subst hU
   by_cases hk:k<S.length
   ·have k1:(k:Int)<(S.length:Int):=Int.ofNat_lt.2 hk
    have hwk:=aW (k:=k) (Nat.le_trans (Nat.le_of_lt hk) (Nat.le_trans HS.out (by decide)))
    have HM:Hid (S.length - (intOf (.int .i64 ((k:Int)+1))).toNat<S.length - (intOf (.int .i64 (k:Int))).toNat):=bQ hk
    obtain⟨s,hs⟩:∃ s,S[k]?=some s:=⟨_,List.getElem?_eq_getElem hk⟩
    have h0l:0<S.length:=Nat.lt_of_le_of_lt (Nat.zero_le _) hk
    obtain⟨z,hz⟩:∃ z,S[0]?=some z:=⟨_,List.getElem?_eq_getElem h0l⟩
    have HU:Hid (RD ok U r v p gs∧thR.At U (.slice pt ts.length ct) ts∧sdR.At U (.slice ps S.length cs) S):=⟨HV.out.1.keep HX.out.2,HV.out.2.1.keep HX.out.2,HV.out.2.2.keep HX.out.2⟩
    obtain⟨gS,oS,cS,eS,-⟩:=dW HU.out.2.2 hk
    injection eS with eS eS2 eS3
    clear eS2 eS3
    subst eS
    obtain⟨c0,c1,c2,c3,c4,c5,c6,c7,c8,c9⟩:=bq (cN HU.out.2.2 hs)
    obtain⟨-,-,-,z3,-⟩:=bq (cN HU.out.2.2 hz)
    have Hk:Hid (k<S.length∧S.getD k Sd.none=s∧S.getD 0 Sd.none=z∧S[k]?=some s):=⟨hk,by rw[List.getD_eq_getElem?_getD,hs];rfl,by rw[List.getD_eq_getElem?_getD,hz];rfl,hs⟩
    have k0:0<S.length:=Nat.lt_of_le_of_lt (Nat.zero_le _) hk
    have CM:=mJ ok r v p gs _ ts F R s U.drew (HU.out.1.keep (ag _)) (HU.out.2.1.keep (ag _)) HT.out.1 HT.out.2
    unfold sdv at CM
    obtain⟨mb,hmb⟩:∃ mb,mb=(bj R s).isSome:=⟨_,rfl⟩
    have Hmb:Hid (mb=(bj R s).isSome):=hmb
    rw[←hmb] at CM
    clear hk' hk hs hz h0l hmb
    go_upto_region 6 with fail
    cases mb with
    | true =>
     refine wp_region_held_drew (S:=fun w'=>U.grownBy w' none) (by kernel_rfl) (ag _) (fun hHeld=>?_)
     refine QZ 0 rfl ?_
     go_frame
     refine QZ 1 rfl ?_
     go_frame
     refine QZ 2 rfl ?_
     go_frame
     refine QZ 3 rfl ?_
     go_frame
     refine QZ 4 rfl ?_
     go_frame
     refine QT 5 rfl (by intro w0 hSw;have c0:=hSw.cell c0 (by simp);have c1:=hSw.cell c1 (by simp);have c2:=hSw.cell c2 (by simp);have c3:=hSw.cell c3 (by simp);have c4:=hSw.cell c4 (by simp);have c5:=hSw.cell c5 (by simp);have c6:=hSw.cell c6 (by simp);have c7:=hSw.cell c7 (by simp);have c8:=hSw.cell c8 (by simp);have c9:=hSw.cell c9 (by simp);go_simp;try with_reducible rfl) ?_
     go_frame
     refine QR 6 rfl (fun K hK=>?_)
     go_simp
     go_at_call 138
     refine(CM).mono ?_
     rintro e2 w2 ⟨rfl,g2⟩
     have HG2:Hid (U.grownBy w2 none):=aa (ag _) g2
     clear CM g2
     refine hK.out _ _ (HG2.out) (fun hHeld2=>?_)
     clear hK K
     (try go_frame)
     refine QZ 7 rfl ?_
     go_frame
     refine QZ 8 rfl ?_
     go_frame
     refine QZ 9 rfl ?_
     go_frame
     refine QZ 10 rfl ?_
     go_frame
     refine QZ 11 rfl ?_
     go_frame
     refine QZ 12 rfl ?_
     go_frame
     refine QZ 13 rfl ?_
     go_frame
     refine QT 14 rfl (by intro w0 hSw;have c3:=hSw.cell c3 (by simp);go_simp;try with_reducible rfl) ?_
     go_frame
     refine QZ 16 rfl ?_
     go_frame
     refine QZ 17 rfl ?_
     go_frame
     refine QZ 18 rfl ?_
     go_frame
     refine QZ 19 rfl ?_
     go_frame
     refine QT 20 rfl (by intro w0 hSw;have z3:=hSw.cell z3 (by simp);go_simp;try with_reducible rfl) ?_
     go_frame
     refine QR 15 rfl (fun K hK=>?_)
     rw[if_pos (by rfl)]
     go_simp
     go_at_call 139
     refine(iQ _ _).mono ?_
     rintro e3 w3 ⟨rfl,h3⟩
     obtain rfl:w2=w3:=h3.symm
     refine hK.out _ _ (HG2.out) (fun hHeld2=>?_)
     clear hK K
     (try go_frame)
     refine QR 21 rfl (fun K hK=>?_)
     rw[if_pos (by rfl)]
     go_simp
     go_at_call 139
     refine(iQ _ _).mono ?_
     rintro e4 w4 ⟨rfl,h4⟩
     obtain rfl:w2=w4:=h4.symm
     refine hK.out _ _ (HG2.out) (fun hHeld2=>?_)
     clear hK K
     (try go_frame)
     refine QZ 22 rfl ?_
     go_frame
     refine QZ 23 rfl ?_
     go_frame
     refine QD ?_
     clear c0 c1 c2 c3 c4 c5 c6 c7 c8 c9 z3 hHeld hHeld2
     by_cases hL:lay s.wh.vb=lay z.wh.vb
     ·have e1:(lay s.wh.vb != lay z.wh.vb)=false:=by rw[hL];simp
      have HL:Hid (lay s.wh.vb=lay z.wh.vb):=hL
      clear hL
      rw[e1]
      go_wp2_with fail
      have H2:Hid (w.grownBy w2 none):=aa HX.out.2 HG2.out
      go_loopw [8] (fun y wr=>∃ j:Nat,j≤k∧y=.int .i64 (j:Int)∧Hid (NoS S k j∧w2.grownBy wr none)) (fun y _=>k - (intOf y).toNat)
      case atStart=>exact⟨0,Nat.zero_le _,rfl,fun i hi=>absurd hi (Nat.not_lt_zero _),ay _ _⟩
      case round =>
       obtain⟨j,hj',rfl,HY⟩:=hrel
       obtain⟨Y,hY⟩:∃ Y,Y=wr:=⟨_,rfl⟩
       subst hY
       have HYs:Hid (sdR.At Y (.slice (some ⟨gS,oS,none⟩) S.length cs) S∧w.grownBy Y none):=⟨HV.out.2.2.keep (aa H2.out HY.out.2),aa H2.out HY.out.2⟩
       by_cases hj:j<k
       ·have j1:(j:Int)<(k:Int):=Int.ofNat_lt.2 hj
        have hjl:j<S.length:=Nat.lt_trans hj Hk.out.1
        have j2:(j:Int)<(S.length:Int):=Int.ofNat_lt.2 hjl
        have hwj:=aW (k:=j) (Nat.le_trans (Nat.le_of_lt hjl) (Nat.le_trans HS.out (by decide)))
        have HMj:Hid (k - (intOf (.int .i64 ((j:Int)+1))).toNat<k - (intOf (.int .i64 (j:Int))).toNat):=bQ hj
        obtain⟨t,ht⟩:∃ t,S[j]?=some t:=⟨_,List.getElem?_eq_getElem hjl⟩
        obtain⟨c0,c1,-,-,-,-,-,-,-,-⟩:=bq (cN HYs.out.1 Hk.out.2.2.2)
        obtain⟨t0,t1,-,-,-,-,-,-,-,-⟩:=bq (cN HYs.out.1 ht)
        have Ht:Hid (j<k∧S.getD j Sd.none=t):=⟨hj,by rw[List.getD_eq_getElem?_getD,ht];rfl⟩
        clear hj' hj hjl ht
        by_cases h1:t.th=s.th
        ·by_cases h2:t.pl=s.pl
         ·have HN:Hid (aN R S []=none):=HX.out.1.clash Hk.out.1 Ht.out.1 (Or.inr ⟨by rw[Ht.out.2,Hk.out.2.1];exact h1,by rw[Ht.out.2,Hk.out.2.1];exact h2⟩)
          have d1:(t.th == s.th)=true:=by rw[h1];exact beq_self_eq_true _
          have d2:(t.pl == s.pl)=true:=by rw[h2];exact beq_self_eq_true _
          clear h1 h2
          go_upto_region 11 with fail
          go_quiet (fail)
          go_wp2_with fail
          go_ret
          exact⟨by rw[HN.out] <;> rfl,aa HYs.out.2 (aD _ _ _)⟩
         ·have HN:Hid (NoS S k (j+1)):=HY.out.1.step Ht.out.2 Hk.out.2.1 (fun q=>h2 q.2)
          have d1:(t.th == s.th)=true:=by rw[h1];exact beq_self_eq_true _
          have d2:(t.pl == s.pl)=false:=by simpa using h2
          clear h1 h2
          go_upto_region 11 with fail
          go_quiet (fail)
          go_wp2_with fail
          go_roundw
          case rel=>exact⟨j+1,Ht.out.1,by first | rfl | (rw[hwj];rfl) | go_num,HN.out,aa HY.out.2 (aD _ _ _)⟩
          case measure=>first | exact HMj.out | (rw[hwj];exact HMj.out)
        ·have HN:Hid (NoS S k (j+1)):=HY.out.1.step Ht.out.2 Hk.out.2.1 (fun q=>h1 q.1)
         have d1:(t.th == s.th)=false:=by simpa using h1
         clear h1
         go_upto_region 11 with fail
         go_quiet (fail)
         go_wp2_with fail
         go_roundw
         case rel=>exact⟨j+1,Ht.out.1,by first | rfl | (rw[hwj];rfl) | go_num,HN.out,aa HY.out.2 (aD _ _ _)⟩
         case measure=>first | exact HMj.out | (rw[hwj];exact HMj.out)
       ·obtain rfl:j=k:=Nat.le_antisymm hj' (Nat.le_of_not_lt hj)
        have j1:¬(j:Int)<(j:Int):=Int.lt_irrefl _
        have HN:Hid (LsU R S (j+1)):=HX.out.1.step Hk.out.1 (by rw[Hk.out.2.1];exact Hmb.out.symm) (by rw[Hk.out.2.1,Hk.out.2.2.1];exact HL.out) HY.out.1
        clear hj' hj
        go_wp2_with fail
        go_roundw
        case rel=>exact⟨j+1,Hk.out.1,by first | rfl | (rw[hwk];rfl) | go_num,HN.out,HYs.out.2⟩
        case measure=>first | exact HM.out | (rw[hwk];exact HM.out)
     ·have e1:(lay s.wh.vb != lay z.wh.vb)=true:=by simpa using hL
      have HN:Hid (aN R S []=none):=by
       have hk0:0<k:=Nat.pos_of_ne_zero fun q=>hL (by rw[←Hk.out.2.1,←Hk.out.2.2.1,q])
       exact HX.out.1.clash Hk.out.1 hk0 (Or.inl (by rw[Hk.out.2.1,Hk.out.2.2.1];exact hL))
      clear hL
      rw[e1]
      go_wp2_with fail
      go_ret
      exact⟨by rw[HN.out] <;> rfl,aa HX.out.2 HG2.out⟩
    | false =>
     have HN:Hid (aN R S []=none):=HX.out.1.lost Hk.out.1 (by rw[Hk.out.2.1];exact Hmb.out.symm)
     refine wp_region_held_drew (S:=fun w'=>U.grownBy w' none) (by kernel_rfl) (ag _) (fun hHeld=>?_)
     refine QZ 0 rfl ?_
     go_frame
     refine QZ 1 rfl ?_
     go_frame
     refine QZ 2 rfl ?_
     go_frame
     refine QZ 3 rfl ?_
     go_frame
     refine QZ 4 rfl ?_
     go_frame
     refine QT 5 rfl (by intro w0 hSw;have c0:=hSw.cell c0 (by simp);have c1:=hSw.cell c1 (by simp);have c2:=hSw.cell c2 (by simp);have c3:=hSw.cell c3 (by simp);have c4:=hSw.cell c4 (by simp);have c5:=hSw.cell c5 (by simp);have c6:=hSw.cell c6 (by simp);have c7:=hSw.cell c7 (by simp);have c8:=hSw.cell c8 (by simp);have c9:=hSw.cell c9 (by simp);go_simp;try with_reducible rfl) ?_
     go_frame
     refine QR 6 rfl (fun K hK=>?_)
     go_simp
     go_at_call 138
     refine(CM).mono ?_
     rintro e2 w2 ⟨rfl,g2⟩
     have HG2:Hid (U.grownBy w2 none):=aa (ag _) g2
     clear CM g2
     refine hK.out _ _ (HG2.out) (fun hHeld2=>?_)
     clear hK K
     (try go_frame)
     refine QZ 7 rfl ?_
     go_frame
     refine QZ 8 rfl ?_
     go_frame
     refine QN 9 rfl ?_
     go_frame
     refine QN 10 rfl ?_
     go_frame
     refine QN 11 rfl ?_
     go_frame
     refine QN 12 rfl ?_
     go_frame
     refine QN 13 rfl ?_
     go_frame
     refine QN 14 rfl ?_
     go_frame
     refine QN 16 rfl ?_
     go_frame
     refine QN 17 rfl ?_
     go_frame
     refine QN 18 rfl ?_
     go_frame
     refine QN 19 rfl ?_
     go_frame
     refine QN 20 rfl ?_
     go_frame
     refine QR 15 rfl (fun K hK=>?_)
     rw[if_neg (Bool.eq_false_iff.1 (by rfl))]
     refine hK.out _ _ (by assumption) (fun hHeld2=>?_)
     clear hK K
     (try go_frame)
     refine QR 21 rfl (fun K hK=>?_)
     rw[if_neg (Bool.eq_false_iff.1 (by rfl))]
     refine hK.out _ _ (by assumption) (fun hHeld2=>?_)
     clear hK K
     (try go_frame)
     refine QN 22 rfl ?_
     go_frame
     refine QZ 23 rfl ?_
     go_frame
     refine QD ?_
     clear c0 c1 c2 c3 c4 c5 c6 c7 c8 c9 z3 hHeld
     go_wp2_with fail
     go_ret
     exact⟨by rw[HN.out] <;> rfl,aa HX.out.2 HG2.out⟩
   ·obtain rfl:k=S.length:=Nat.le_antisymm hk' (Nat.le_of_not_lt hk)
    have k1:¬(S.length:Int)<(S.length:Int):=Int.lt_irrefl _
    have HN:Hid ((aN R S []).isSome=true):=HX.out.1.end
    clear hk' hk
    go_wp2_with fail
    go_ret
    exact⟨by rw[HN.out] <;> rfl,HX.out.2⟩
 ·have d64:decide ((64:Int)<(S.length:Int))=true:=decide_eq_true (by omega)
  have HN:Hid ((aN R S []).isSome=false):=by
   show _=_
   cases q:aN R S [] with
   | none=>rfl
   | some L=>exact absurd (H64.out L q) h64
  clear h64
  go_wp2_with fail
  go_ret
  exact⟨by rw[HN.out] <;> rfl,ay _ _⟩
theorem RD.four {ok:Nat→Prop} {w:World} {r:Nat} {v:Value} {p:Pl} {gs:List Ent} (B:RD ok w r v p gs) (c:Int):(atC p gs c).2.length≤4:=by
 unfold atC
 split
 ·split
  ·rename_i e he
   exact B.par e (List.mem_of_getElem? he)
  ·exact Nat.zero_le _
 ·exact Nat.zero_le _
theorem xy {R:List Rw} {s x:Sd} {d1 d2:Se} (h:aN R [s,x] []=some [d1,d2]):(d1.s=s∧d1.ro<R.length∧(R.getD d1.ro Rw.none).nu=s.th)∧d2.s=x∧d2.ro<R.length∧(R.getD d2.ro Rw.none).nu=x.th:=by
 have hs:=qn [s,x] [] _ h
 have hf:=(fm [s,x] [] _ List.Pairwise.nil (fun e he=>absurd he (by simp)) h).2
 simp only[List.map_cons,List.map_nil,List.nil_append,List.cons.injEq,and_true] at hs
 obtain⟨h1,h2⟩:=hs
 have a:=dO (hf d1 (by simp))
 have b:=dO (hf d2 (by simp))
 rw[h1] at a
 rw[h2] at b
 exact⟨⟨h1,a.2.1,a.2.2⟩,h2,b.2.1,b.2.2⟩
theorem qr (ok:Nat→Prop) (r:Nat) (v:Value) (p:Pl) (gs:List Ent) (vt vf:Value) (ts:List Th) (F:List Fe) (s x:Sd) (w:World) (B:RD ok w r v p gs) (A:thR.At w vt ts) (AF:feR.At w vf F) (hr:TrI F):Calls Tryz.prog 78 #[.pointer (some ⟨r,0,none⟩),vt,vf,sdv s,sdv x] w (gi w (bG p ts.length) (gs.length:Int) (atC p gs) ts F s x):=by
 obtain⟨pt,ct,rfl⟩:=A.form
 obtain⟨pf,cf,rfl⟩:=AF.form
 obtain⟨V,hV⟩:∃ V,V=(w.alloc (.cells #[.int .i64 s.th,.int .i64 s.pl,.int .u8 s.wh.wn,.int .u8 s.wh.vb,.int .u8 s.wh.wm,.int .i64 s.wh.ct,.int .u8 s.wh.su,.int .u8 s.wh.tr,.int .u8 s.wh.mr,.string s.wh.nm] 64)).alloc (.cells #[.int .i64 x.th,.int .i64 x.pl,.int .u8 x.wh.wn,.int .u8 x.wh.vb,.int .u8 x.wh.wm,.int .i64 x.wh.ct,.int .u8 x.wh.su,.int .u8 x.wh.tr,.int .u8 x.wh.mr,.string x.wh.nm] 64):=⟨_,rfl⟩
 have HV:Hid (SdB V w.heap.size s∧SdB V (w.heap.size+1) x∧w.grownBy V none∧RD ok V r v p gs∧thR.At V (.slice pt ts.length ct) ts∧feR.At V (.slice pf F.length cf) F):=by
  have gr:w.grownBy V none:=by rw[hV];exact am (World.grownBy_alloc _ _ none) _
  exact⟨by rw[hV];exact ai (World.grownBy_alloc _ _ none) (ak w _ _) (by simp),by rw[hV];exact aL _ _ _ _,gr,B.keep gr,A.keep gr,AF.keep gr⟩
 have C1:=fQ ok r v p gs _ _ ts F V HV.out.2.2.2.1 HV.out.2.2.2.2.1 HV.out.2.2.2.2.2 hr
 obtain⟨q,hq⟩:∃ q,q=lkE (bG p ts.length) (gs.length:Int) (atC p gs) ts F []:=⟨_,rfl⟩
 have Hq:Hid (q=lkE (bG p ts.length) (gs.length:Int) (atC p gs) ts F []):=hq
 rw[←hq] at C1
 unfold sdv
 clear B A AF hr hq
 go_enter Tryz.func78,Tryz.ntmps78
 go_upto_region 1 with fail
 rw[←hV]
 obtain⟨n0,hn0⟩:∃ n0,n0=w.heap.size:=⟨_,rfl⟩
 have Hn0:Hid (n0=w.heap.size):=hn0
 rw[←hn0] at HV ⊢
 obtain⟨n1,hn1⟩:∃ n1,n1=n0+1:=⟨_,rfl⟩
 rw[←hn1] at HV ⊢
 clear hV hn0 hn1
 go_wp2_with fail
 refine C1.mono ?_
 rintro e1 w1 ⟨rfl,g1⟩
 have H1:Hid (SdB w1 n0 s∧SdB w1 n1 x∧w.grownBy w1 none∧RD ok w1 r v p gs∧thR.At w1 (.slice pt ts.length ct) ts∧feR.At w1 (.slice pf F.length cf) F):=⟨ai g1 HV.out.1 (by simp),ai g1 HV.out.2.1 (by simp),aa HV.out.2.2.1 g1,HV.out.2.2.2.1.keep g1,HV.out.2.2.2.2.1.keep g1,HV.out.2.2.2.2.2.keep g1⟩
 clear C1 g1 HV
 by_cases h0:q=0
 ·obtain⟨r0,R,hR⟩:=ib (Hq.out.symm.trans h0)
  have hlen:ts.length≤2048:=Nat.le_of_not_lt fun z=>by
   unfold bG at r0
   rw[if_pos z] at r0
   cases r0
  have HT:Hid (bG p ts.length=0∧Tab (gs.length:Int) (atC p gs) ts F R∧ts.length≤2048):=⟨r0,Tab.of hR,hlen⟩
  have e0:(q != 0)=false:=by rw[h0];rfl
  obtain⟨Z,hZ⟩:∃ Z,Z=w1.alloc (.cells #[.int .i64 s.th,.int .i64 s.pl,.int .u8 s.wh.wn,.int .u8 s.wh.vb,.int .u8 s.wh.wm,.int .i64 s.wh.ct,.int .u8 s.wh.su,.int .u8 s.wh.tr,.int .u8 s.wh.mr,.string s.wh.nm,.int .i64 x.th,.int .i64 x.pl,.int .u8 x.wh.wn,.int .u8 x.wh.vb,.int .u8 x.wh.wm,.int .i64 x.wh.ct,.int .u8 x.wh.su,.int .u8 x.wh.tr,.int .u8 x.wh.mr,.string x.wh.nm] 64):=⟨_,rfl⟩
  have HZ:Hid (SdB Z n0 s∧SdB Z n1 x∧w.grownBy Z none∧RD ok Z r v p gs∧thR.At Z (.slice pt ts.length ct) ts∧feR.At Z (.slice pf F.length cf) F∧sdR.At Z (.slice (some ⟨w1.heap.size,0,none⟩) 2 2) [s,x]):=by
   have g:w1.grownBy Z none:=by rw[hZ];exact World.grownBy_alloc _ _ none
   exact⟨ai g H1.out.1 (by simp),ai g H1.out.2.1 (by simp),aa H1.out.2.2.1 g,H1.out.2.2.2.1.keep g,H1.out.2.2.2.2.1.keep g,H1.out.2.2.2.2.2.keep g,by rw[hZ];exact yM (ak _ _ _)⟩
  have C2:=l8 ok r v p gs _ _ ts F R [s,x] Z HZ.out.2.2.2.1 HZ.out.2.2.2.2.1 HZ.out.2.2.2.2.2.2 (Tab.of hR) (HZ.out.2.2.2.1.four) hlen
  obtain⟨fd,hfd⟩:∃ fd,fd=aN R [s,x] []:=⟨_,rfl⟩
  have Hfd:Hid (aN R [s,x] []=fd):=hfd.symm
  rw[←hfd] at C2
  obtain⟨s0,s1,s2,s3,s4,s5,s6,s7,s8,s9⟩:=bl H1.out.1
  obtain⟨o0,o1,o2,o3,o4,o5,o6,o7,o8,o9⟩:=bl H1.out.2.1
  have HZe:Hid (Z=w1.alloc (.cells #[.int .i64 s.th,.int .i64 s.pl,.int .u8 s.wh.wn,.int .u8 s.wh.vb,.int .u8 s.wh.wm,.int .i64 s.wh.ct,.int .u8 s.wh.su,.int .u8 s.wh.tr,.int .u8 s.wh.mr,.string s.wh.nm,.int .i64 x.th,.int .i64 x.pl,.int .u8 x.wh.wn,.int .u8 x.wh.vb,.int .u8 x.wh.wm,.int .i64 x.wh.ct,.int .u8 x.wh.su,.int .u8 x.wh.tr,.int .u8 x.wh.mr,.string x.wh.nm] 64)):=hZ
  clear h0 r0 hR hlen hfd hZ
  go_wp2_with fail
  rw[←HZe.out]
  refine C2.mono ?_
  rintro e2 w2 ⟨rfl,g2⟩
  have H2:Hid (SdB w2 n0 s∧SdB w2 n1 x∧w.grownBy w2 none∧RD ok w2 r v p gs∧thR.At w2 (.slice pt ts.length ct) ts∧feR.At w2 (.slice pf F.length cf) F):=⟨ai g2 HZ.out.1 (by simp),ai g2 HZ.out.2.1 (by simp),aa HZ.out.2.2.1 g2,HZ.out.2.2.2.1.keep g2,HZ.out.2.2.2.2.1.keep g2,HZ.out.2.2.2.2.2.1.keep g2⟩
  clear C2 g2 H1 HZ HZe s0 s1 s2 s3 s4 s5 s6 s7 s8 s9 o0 o1 o2 o3 o4 o5 o6 o7 o8 o9
  cases fd with
  | none =>
   rw[show (none:Option (List Se)).isSome=false from rfl]
   go_wp2_with fail
   go_ret2
   have hl2:lkE (bG p ts.length) (gs.length:Int) (atC p gs) ts F [s,x]=2:=by rw[HT.out.1,gD HT.out.2.1.tab Hfd.out]
   exact⟨false,by rw[hl2] <;> rfl,H2.out.2.2.1,fun _=>rfl,fun R' d1 d2 _ hR' hd'=>by rw[HT.out.2.1.tab] at hR';cases hR';rw[Hfd.out] at hd';cases hd'⟩
  | some L =>
   obtain⟨d1,d2,rfl⟩:=tx Hfd.out
   obtain⟨⟨a1,a2,a3⟩,b1,b2,b3⟩:=xy Hfd.out
   have C3:=ie ok r v p gs _ _ ts F R s d1.ro x d2.ro w2 H2.out.2.2.2.1 H2.out.2.2.2.2.1 H2.out.2.2.2.2.2 HT.out.2.1 a2 a3 b2 b3 HT.out.2.2
   rw[show (⟨s,d1.ro⟩:Se)=d1 from by rw[←a1],show (⟨x,d2.ro⟩:Se)=d2 from by rw[←b1]] at C3
   obtain⟨db,hdb⟩:∃ db,db=eX R (aq R F) d1 d2:=⟨_,rfl⟩
   have Hdb:Hid (db=eX R (aq R F) d1 d2):=hdb
   rw[←hdb] at C3
   unfold sdv at C3
   obtain⟨s0,s1,s2,s3,s4,s5,s6,s7,s8,s9⟩:=bl H2.out.1
   obtain⟨o0,o1,o2,o3,o4,o5,o6,o7,o8,o9⟩:=bl H2.out.2.1
   clear a1 a2 a3 b1 b2 b3 hdb
   rw[show (some [d1,d2]).isSome=true from rfl]
   go_wp2_with fail
   refine C3.mono ?_
   rintro e3 w3 ⟨rfl,g3⟩
   have H3:Hid (w.grownBy w3 none):=aa H2.out.2.2.1 g3
   clear C3 g3 s0 s1 s2 s3 s4 s5 s6 s7 s8 s9 o0 o1 o2 o3 o4 o5 o6 o7 o8 o9
   go_wp2_with fail
   go_ret2
   have hl2:lkE (bG p ts.length) (gs.length:Int) (atC p gs) ts F [s,x]=0:=by rw[HT.out.1,eE HT.out.2.1.tab Hfd.out]
   exact⟨db,by rw[hl2] <;> rfl,H3.out,fun z=>absurd hl2 z,fun R' d1' d2' _ hR' hd'=>by
    rw[HT.out.2.1.tab] at hR'
    cases hR'
    rw[Hfd.out] at hd'
    cases hd'
    exact Hdb.out⟩
 ·have e0:(q != 0)=true:=by simpa using h0
  have HN:Hid (lkE (bG p ts.length) (gs.length:Int) (atC p gs) ts F [s,x]=q):=by show _=_;rw[ls (by rw[←Hq.out];exact h0),←Hq.out]
  have H0:Hid (q≠0):=h0
  clear h0
  go_wp2_with fail
  go_ret2
  exact⟨false,by rw[HN.out] <;> rfl,H1.out.2.2.1,fun _=>rfl,fun R' d1 d2 r0 hR' _=>by
   have h9:=Hq.out
   rw[r0,eI hR'] at h9
   exact absurd h9 H0.out⟩
end Go.Proofs.YtjmepebbcnhalaaGreat
