import Derived.Test.YtjmepebbcnhalaaGreatRyS
namespace Go.Proofs.YtjmepebbcnhalaaGreat
open Go.RowKit Go.Shelf
variable {n m k:Int} {cd:Int→Hd×List Pt} {ts:List Th} {F G fs X:List Fe} {R:List Rw} {S:List Sd} {L A:List Se} {w wr w':World} {base g c:Nat} {xs:List Value} {e:Se}
theorem LsN.of (hT:Tab n cd ts F R) (hc:∀ c,(cd c).2.length≤4) (h:bn R S []=some L):LsN R ts S L:=by
 have hs:L.map Se.s=S:=by have:=xD S [] L h;simpa using this
 have hf:=(j3 S [] L List.Pairwise.nil (fun e he=>absurd he (by simp)) h).2
 have hlen:L.length=S.length:=by rw[←hs,List.length_map]
 have hro:∀ i,i<S.length→∃ ro,L.getD i Se.none=⟨S.getD i Sd.none,ro⟩∧ro<R.length∧(R.getD ro Rw.none).nu=(S.getD i Sd.none).th:=fun i hi=>by
  have hiL:i<L.length:=by rw[hlen];exact hi
  have a:=i7 (hf (L.getD i Se.none) (by rw[aB hiL];exact List.getElem_mem _))
  have e:(L.getD i Se.none).s=S.getD i Sd.none:=by
   have q:(L.map Se.s)[i]?=S[i]?:=by rw[hs]
   rw[List.getElem?_map,Qg hiL,Qg hi] at q
   rw[aB hiL,aB hi]
   simpa using q
  exact⟨(L.getD i Se.none).ro,by rw[←e],a.2.1,by rw[a.2.2,e]⟩
 refine⟨hs,hT.list64 hc h,hro,fun i hi=>?_⟩
 obtain⟨ro,-,h2,h3⟩:=hro i hi
 obtain⟨j,t,ht,-,e⟩:=hT.row (show R.getD ro Rw.none∈R by rw[aB h2];exact List.getElem_mem _)
 exact⟨j,t,by rw[←h3,e],ht⟩
theorem Tab.stAt (h:Tab n cd ts F R) {i j:Nat} (hij:i<j) (hj:j<R.length):(R.getD i Rw.none).st<(R.getD j Rw.none).st:=by
 have q:=List.pairwise_iff_getElem.1 h.up i j (by omega) hj hij
 rw[aB (show i<R.length by omega),aB hj]
 exact q
theorem LsN.ah (hL:LsN R ts S L) (hT:Tab n cd ts F R) {i j:Nat} (hi:i<S.length) (hj:j<S.length) (h:lg (L.getD i Se.none) (L.getD j Se.none)):ahL ts (S.getD i Sd.none) (S.getD j Sd.none)=true:=by
 obtain⟨a,a1,a2,a3⟩:=hL.ro i hi
 obtain⟨b,b1,b2,b3⟩:=hL.ro j hj
 rw[a1,b1] at h
 unfold lg at h
 rw[rt,←a3,←b3,(hT.thing a2).2.1,(hT.thing b2).2.1]
 rcases h with h | ⟨h1,h2⟩
 ·exact Or.inl (hT.stAt h b2)
 ·have h1':a=b:=h1
  subst h1'
  exact Or.inr ⟨rfl,h2⟩
theorem Av {x:Nat} (hL:LsN R ts S L) (hT:Tab n cd ts F R) (hs:L.Pairwise lg) (h:NxE R G ts S L x):x=cw R G L:=by
 have hlen:=hL.len
 have up:∀ i j,i<j→j<S.length→ahL ts (S.getD i Sd.none) (S.getD j Sd.none)=true:=fun i j hij hj=>by
  refine hL.ah hT (by omega) hj ?_
  rw[aB (show i<L.length by omega),aB (show j<L.length by omega)]
  exact List.pairwise_iff_getElem.1 hs i j (by omega) (by omega) hij
 obtain⟨hx,h | h⟩:=h
 ·refine(rY (by omega) (fun i hi=>?_) h.1).symm
  refine Bool.eq_false_iff.2 fun z=>?_
  have h1:=h.2 i (by omega) z
  rw[up i x hi hx] at h1
  cases h1
 ·rw[oN (fun i hi=>h.1 i (by omega))]
  refine Nat.eq_zero_of_not_pos fun z=>?_
  have h1:=h.2 0 (by omega)
  rw[up 0 x z hx] at h1
  cases h1
set_option maxRecDepth 100000
set_option maxHeartbeats 4000000
theorem Cp {n K:Nat} (h:bF w base (.slice (some ⟨g,0,none⟩) n c) S) (hn:n=S.length) (hK:K≤n) (hm:n≤64):Src w (.slice (some ⟨g,0,none⟩) K c) K 10 (sdR.cs (S.take K)):=by
 have hl:(S.take K).length=K:=by rw[List.length_take];omega
 have A:sdR.At w (.slice (some ⟨g,0,none⟩) K c) (S.take K):=by
  refine⟨some ⟨g,0,none⟩,c,by rw[hl],by rw[hl];unfold maxLen;omega,fun _=>⟨g,0,rfl,fun j x hj=>?_⟩⟩
  have hjK:j<K:=by have:=(Qh hj).1;omega
  rw[List.getElem?_take_of_lt hjK] at hj
  exact dK (n:=n) (c:=c) (az.Own.at h) hj
 have q:=A.src
 rwa [hl] at q
theorem Db {n K:Nat} (h:bF w base (.slice (some ⟨g,0,none⟩) n c) S) (hn:n=S.length) (hm:n≤64):Src w (.slice (some ⟨g,K*10,none⟩) (n - K) (c - K)) (n - K) 10 (sdR.cs (S.drop K)):=by
 have hl:(S.drop K).length=n - K:=by rw[List.length_drop,hn]
 have A:sdR.At w (.slice (some ⟨g,K*10,none⟩) (n - K) (c - K)) (S.drop K):=by
  refine⟨some ⟨g,K*10,none⟩,c - K,by rw[hl],by rw[hl];unfold maxLen;omega,fun _=>⟨g,K*10,rfl,fun j x hj=>?_⟩⟩
  rw[List.getElem?_drop] at hj
  have q:=dK (n:=n) (c:=c) (az.Own.at h) hj
  rw[show K*10+j*sdR.k=0+(K+j)*10 from by show K*10+j*10=_;omega]
  exact q
 have q:=A.src
 rwa [hl] at q
theorem zQ {n K:Nat} {ad:Option Addr} (hn:n=S.length) (hK:n=K):Src w (.slice ad (n - K) c) (n - K) 10 (sdR.cs (S.drop K)):=by
 rw[List.drop_eq_nil_of_le (by omega)]
 exact⟨ad,c,rfl,by rw[hK,Nat.sub_self];rfl,fun h=>absurd h (by omega)⟩
structure AlD (w wr:World) (vO vL vA:Value) (m:Int) (cd:Int→Hd×List Pt) (ts:List Th) (fs:List Fe) (R:List Rw) (k:Int) (X:List Fe) (L A:List Se):Prop where
 o:aQ wr w.heap.size vO X
 l:bF wr w.heap.size vL (L.map Se.s)
 a:bF wr w.heap.size vA (A.map Se.s)
 dis:∀ b,vL.ownBlock=some b→vA.ownBlock≠some b
 onc:Onc m cd ts fs R k X L A
 gr:w.grownBy wr none
 fw:L.length+A.length≤64
theorem AlD.grow {vO vL vA:Value} (h:AlD w wr vO vL vA m cd ts fs R k X L A) (g:wr.grownBy w' none):AlD w w' vO vL vA m cd ts fs R k X L A:=⟨aw h.o g,aw h.l g,aw h.a g,h.dis,h.onc,ae h.gr g,h.fw⟩
theorem Cv {x:Nat}:(L.map Se.s).take x++(L.map Se.s).drop (x+1)=(L.eraseIdx x).map Se.s:=by
 rw[List.eraseIdx_eq_take_drop_succ,List.map_append,List.map_take,List.map_drop]
theorem Eb (h:Onc m cd ts fs R k X [] A):bu fs R (du R fs k).1=X∧(du R fs k).2=A:=⟨h.end,by rw[h.all];rfl⟩
theorem AlD.next8 {w6 w7 w8:World} {vO vl v7 v8 v6:Value} {Y:List Fe} {M B:List Se} {x nn:Nat} {zs:List Value} (h6:aQ w6 w.heap.size vO Y∧bF w6 w.heap.size vl S∧bF w6 w.heap.size v6 (B.map Se.s)∧w.grownBy w6 none) (g7:w6.grownBy w7 none) (o7:w7.ownsRow w6.heap.size 64 10 v7 x xs) (o8:w8.ownsRow w6.heap.size 64 10 v8 nn zs) (g8:w7.grownBy w8 v7.ownBlock) (hlen:nn=M.length) (hz:zs=sdR.cs (M.map Se.s)) (onc:Onc m cd ts fs R k Y M B) (fw:M.length+B.length≤64):AlD w w8 vO v8 v6 m cd ts fs R k Y M B:=by
 refine⟨bK (aw h6.1 g7) o7 (by decide) g8,?_,?_,?_,onc,ar (ae h6.2.2.2 g7) g8 (fun y e=>Ql h6.2.2.2.size (World.ownsRow.lt o7 y e).1),fw⟩
 ·have q:bF w8 w6.heap.size v8 (M.map Se.s):=by
   unfold bF az.Own
   rw[List.length_map,←hlen,←hz]
   exact o8
  exact aP q h6.2.2.2.size
 ·refine World.ownsRow.kept (aw h6.2.2.1 g7) g8 ?_
  cases hv:v6.ownBlock with
  | none=>exact Or.inl rfl
  | some b =>
   refine Or.inr fun z=>?_
   have h1:=(World.ownsRow.lt h6.2.2.1 b hv).2
   have h2:=(World.ownsRow.lt o7 b z.symm).1
   omega
 ·intro b hb z
  have h1:=(World.ownsRow.lt h6.2.2.1 b z).2
  have h2:=(World.ownsRow.lt o8 b hb).1
  omega
theorem F5 {x n K:Nat} (hn:n=L.length) (hx:x<n) (hK:K=x+1):x+(n - K)=(L.eraseIdx x).length:=by
 rw[List.length_eraseIdx,if_pos (by omega)]
 omega
theorem fw8 {x:Nat} (h:L.length+A.length≤64) (hx:x<L.length):(L.eraseIdx x).length+(A++[e]).length≤64:=by
 rw[List.length_eraseIdx,if_pos hx,Qa,List.length_singleton]
 omega
theorem sk (ok:Nat→Prop) (r:Nat) (v:Value) (p:Pl) (gs:List Ent) (vt vf:Value) (ts:List Th) (F:List Fe) (k:Int) (w:World) (B:RD ok w r v p gs) (A:thR.At w vt ts) (AF:feR.At w vf F) (hr:TrI F):Calls Tryz.prog 16 #[.pointer (some ⟨r,0,none⟩),vt,vf,.int .i64 k] w (fG w (bg p ts.length) (gs.length:Int) (atC p gs) ts F k):=by
 obtain⟨iF,hiF,hF0,hF1,hF2⟩:=info_parts Tryz.linfoF
 obtain⟨i0,hi,hz0,hz1,hz2⟩:=info_parts Tryz.linfoD
 obtain⟨pt,ct,rfl⟩:=A.form
 obtain⟨pf,cf,rfl⟩:=AF.form
 have C1:=kS ok r v p gs _ _ ts F k w B A AF hr
 unfold eD at C1
 have HV:Hid (RD ok w r v p gs∧thR.At w (.slice pt ts.length ct) ts∧feR.At w (.slice pf F.length cf) F):=⟨B,A,AF⟩
 clear B A AF hr
 go_enter Tryz.func16,Tryz.ntmps16
 go_wp2_with fail
 refine C1.mono ?_
 rintro e1 w1 ⟨pL,mL,cL,rfl,g1,h1,h2⟩
 obtain⟨q,hq⟩:=Qe (bgE (bg p ts.length) (gs.length:Int) (atC p gs) ts F k)
 have Hq:Hid (q=bgE (bg p ts.length) (gs.length:Int) (atC p gs) ts F k):=hq
 have Hh2:Hid (∀ R,bg p ts.length=0→1≤k∧k≤5→bw (gs.length:Int) (atC p gs) ts F=some R→bF w1 w.heap.size (.slice pL mL cL) ((cx R (aq R F) k).map Se.s)):=h2
 have H1:Hid (w.grownBy w1 none∧RD ok w1 r v p gs∧thR.At w1 (.slice pt ts.length ct) ts∧feR.At w1 (.slice pf F.length cf) F):=⟨g1,HV.out.1.keep g1,HV.out.2.1.keep g1,HV.out.2.2.keep g1⟩
 rw[←hq]
 clear C1 g1 h1 h2 hq
 by_cases h0:q=0
 ·have e0:(q != 0)=false:=by rw[h0];rfl
  have H0:Hid (bgE (bg p ts.length) (gs.length:Int) (atC p gs) ts F k=0):=by show _=_;rw[←Hq.out,h0]
  obtain⟨r0,hk5,R,hR⟩:=jy H0.out
  have hlen:ts.length≤2048:=Nat.le_of_not_lt fun z=>by
   unfold bg at r0
   rw[if_pos z] at r0
   cases r0
  have HT:Hid (Tab (gs.length:Int) (atC p gs) ts F R∧ts.length≤2048∧F.length≤2048):=⟨Tab.of hR,hlen,by rw[←(Tab.of hR).len];exact hlen⟩
  have HD0:Hid (bF w1 w.heap.size (.slice pL mL cL) ((cx R (aq R F) k).map Se.s)):=Hh2.out R r0 hk5 hR
  have HSrc:Hid (Src w1 (.slice pf F.length cf) F.length 5 (feR.cs F)):=az.At.src H1.out.2.2.2
  have HL5:Hid (0+F.length≤maxLen∧(0+F.length)*32≤140737488355328):=by have:=HT.out.2.2;exact⟨by unfold maxLen;omega,by omega⟩
  have Hc4:Hid (∀ c,(atC p gs c).2.length≤4):=HV.out.1.four
  clear h0 r0 hk5 hR hlen Hh2
  go_upto_region 6 with (at_builtin;refine bE (by rfl) (.tmp 28) (.tmp 29) 27 rfl w.heap.size 122 iF _ 5 32 Tryz.underlying27 hiF hF0 hF1 hF2 rfl (by decide) (.slice none 0 0) 0 [] rfl ⟨rfl,Or.inl ⟨rfl,rfl⟩⟩ _ F.length (feR.cs F) rfl HSrc.out (feR.ones F) HL5.out.1 HL5.out.2 H1.out.1.size ?_;intro v9 w9 o9 g9 _;have HO9:Hid (aQ w9 w.heap.size v9 F):=(by have h9:=o9;rw[Nat.zero_add,List.nil_append] at h9;exact h9);have HG9:Hid (w1.grownBy w9 none):=g9;clear o9 g9)
  have HA0:Hid (AlD w w9 v9 (.slice pL mL cL) (.slice none 0 0) (gs.length:Int) (atC p gs) ts F R k F (cx R (aq R F) k) []):=⟨HO9.out,aw HD0.out HG9.out,az.Own.nil _ _ _ _,fun b _ z=>(by cases z),Onc.start HT.out.1,ae H1.out.1 HG9.out,by have:=HT.out.1.effs Hc4.out (aq R F) k;simpa using this⟩
  clear HSrc HL5 HO9 HG9 HD0
  go_wp2_with fail
  go_loopw [11,13,14,15,16] (fun vL vO vA _ _ wr=>∃ (X:List Fe) (L A:List Se),Hid (AlD w wr vO vL vA (gs.length:Int) (atC p gs) ts F R k X L A)) (fun vL _ _ _ _ _=>sA vL)
  case atStart=>exact⟨F,cx R (aq R F) k,[],HA0.out⟩
  case round =>
   clear HA0
   obtain⟨X,L,A,HS⟩:=hrel
   obtain⟨U,hU⟩:=Qe (wr)
   subst hU
   obtain⟨pL,cL,rfl⟩:=az.Own.form HS.out.l
   obtain⟨pA,cA,rfl⟩:=az.Own.form HS.out.a
   obtain⟨pO,cO,rfl⟩:=az.Own.form HS.out.o
   rw[List.length_map] at HS ⊢
   rw[List.length_map] at HS ⊢
   by_cases hlt:0<L.length
   ·skip
    have hS0:0<(L.map Se.s).length:=by rw[List.length_map];exact hlt
    have HLs:Hid (LsN R ts (L.map Se.s) L):=LsN.of HS.out.onc.tab Hc4.out HS.out.onc.list
    obtain⟨gL,cL',eL,hgb,hgl,hnc,-,-⟩:=cH HS.out.l hS0
    injection eL with eL1 eL2 eL3
    clear eL2
    subst eL1
    subst eL3
    obtain⟨n,hn⟩:=Qe (L.length)
    have Hn:Hid (n=L.length∧0<n∧n≤cL∧n≤64):=⟨hn,by omega,by rw[hn];rw[List.length_map] at hnc;exact hnc,by have:=HS.out.fw;omega⟩
    have CN:=zp ok r v p gs _ _ _ ts X R (L.map Se.s) L U (HV.out.1.keep HS.out.gr) (HV.out.2.1.keep HS.out.gr) (az.Own.at HS.out.o) (az.Own.at HS.out.l) HS.out.onc.tab HT.out.2.1 HLs.out hS0
    rw[←hn] at CN HS ⊢
    have hlt':(0:Int)<(n:Int):=by omega
    clear hlt hS0 hn hgb hgl hnc
    go_wp2_with fail
    refine CN.mono ?_
    rintro e4 w4 ⟨x,rfl,hx,g4⟩
    have HX:Hid (x=cw R (aq R X) L∧x<n):=⟨Av HLs.out HS.out.onc.tab HS.out.onc.up hx,by rw[Hn.out.1,←HLs.out.len.symm];exact hx.1⟩
    have H4:Hid (AlD w w4 (.slice pO X.length cO) (.slice (some ⟨gL,0,none⟩) n cL) (.slice pA A.length cA) (gs.length:Int) (atC p gs) ts F R k X L A):=HS.out.grow g4
    clear CN hx g4 HS
    obtain⟨S,hS⟩:=Qe (L.map Se.s)
    have HSL:Hid (S=L.map Se.s∧S.length=n):=⟨hS,by rw[hS,List.length_map,Hn.out.1]⟩
    obtain⟨ro,b1,b2,b3⟩:=HLs.out.ro x (by rw[List.length_map,←Hn.out.1];exact HX.out.2)
    obtain⟨s,hs⟩:=Qe ((L.map Se.s).getD x Sd.none)
    rw[←hs] at b1 b3
    have Hsx:Hid (S[x]?=some s∧L.getD x Se.none=⟨s,ro⟩):=⟨by rw[hS];exact atD (by rw[List.length_map,←Hn.out.1];exact HX.out.2) hs.symm,b1⟩
    have RR:=dK (az.Own.at H4.out.l) (show (L.map Se.s)[x]?=some s by rw[←hS];exact Hsx.out.1)
    rw[Nat.zero_add] at RR
    obtain⟨c0,c1,c2,c3,c4,c5,c6,c7,c8,c9⟩:=bN RR
    have C5:=jO ok r v p gs _ _ ts X R s ro w4 (HV.out.1.keep H4.out.gr) (HV.out.2.1.keep H4.out.gr) (az.Own.at H4.out.o) H4.out.onc.tab b2 b3 HT.out.2.1
    unfold sdv at C5
    have xn:(x:Int)<(n:Int):=Int.ofNat_lt.2 HX.out.2
    clear hS hs b1 b2 b3 RR
    go_wp2_with fail
    refine C5.mono ?_
    rintro e5 w5 ⟨v5,rfl,o5,g5⟩
    obtain⟨p5,c5',ev5⟩:=az.Own.form o5
    obtain⟨Y,hY⟩:=Qe (bu X R (aG R (aq R X) ⟨s,ro⟩))
    have HY:Hid (Y=bu X R (aG R (aq R X) ⟨s,ro⟩)):=hY
    rw[←hY] at o5 ev5
    subst ev5
    have H5:Hid (aQ w5 w.heap.size (.slice p5 Y.length c5') Y∧bF w5 w.heap.size (.slice (some ⟨gL,0,none⟩) n cL) S∧bF w5 w.heap.size (.slice pA A.length cA) (A.map Se.s)∧w.grownBy w5 none):=⟨aP o5 H4.out.gr.size,by rw[HSL.out.1];exact aw H4.out.l g5,aw H4.out.a g5,ae H4.out.gr g5⟩
    have Hdis:Hid (∀ b,(Value.slice (some ⟨gL,0,none⟩) n cL).ownBlock=some b→(Value.slice pA A.length cA).ownBlock≠some b):=H4.out.dis
    have Honc:Hid (Onc (gs.length:Int) (atC p gs) ts F R k Y (L.eraseIdx x) (A++[⟨s,ro⟩])):=by
     have q:=H4.out.onc.step (by rw[←Hn.out.1];exact Hn.out.2.1)
     rw[←HX.out.1,Hsx.out.2] at q
     show Onc _ _ _ _ _ _ _ _ _
     rw[hY]
     exact q
    have Hfw:Hid (L.length+A.length≤64):=H4.out.fw
    clear C5 o5 g5 hY H4 c0 c1 c2 c3 c4 c5 c6 c7 c8 c9
    have RR:=dK (az.Own.at H5.out.2.1) Hsx.out.1
    rw[Nat.zero_add] at RR
    obtain⟨c0,c1,c2,c3,c4,c5,c6,c7,c8,c9⟩:=bN RR
    clear RR
    obtain⟨na,hna⟩:=Qe (A.length)
    have Hna:Hid (na=A.length∧na≤64):=⟨hna,by have:=Hfw.out;omega⟩
    have HOa:Hid (w5.ownsRow w.heap.size 64 10 (.slice pA na cA) na (sdR.cs (A.map Se.s))):=by
     have h9:=H5.out.2.2.1
     unfold bF az.Own at h9
     rw[List.length_map,←hna] at h9
     exact h9
    rw[←hna] at Hdis ⊢
    clear hna
    have HLa:Hid (na+1≤maxLen∧(na+1)*56≤140737488355328):=AM rfl (Ql Hna.out.2 (by decide))
    have HLb:Hid (w.heap.size≤(w5.alloc (.cells (sdc s).toArray 64)).heap.size):=Ql H5.out.2.2.2.size (World.grownBy_alloc w5 _ none).size
    go_upto_region 11 with (at_builtin;refine bE (by rfl) (.tmp 47) (.tmp 52) 30 rfl w.heap.size 64 i0 _ 10 56 Tryz.underlying30 hi hz0 hz1 hz2 rfl (by decide) _ na (sdR.cs (A.map Se.s)) rfl (World.ownsRow.alloc HOa.out _) _ 1 (sdc s) rfl (zO w5 s) (fz _) HLa.out.1 HLa.out.2 HLb.out ?_;intro v6 w6 o6 g6 l6;have HO6:Hid _:=o6;have HG6:Hid _:=g6;have HL6:Hid _:=l6;clear o6 g6 l6)
    have H6:Hid (aQ w6 w.heap.size (.slice p5 Y.length c5') Y∧bF w6 w.heap.size (.slice (some ⟨gL,0,none⟩) n cL) S∧bF w6 w.heap.size v6 ((A++[(⟨s,ro⟩:Se)]).map Se.s)∧w.grownBy w6 none):=by
     have ga:=World.grownBy_alloc w5 (.cells (sdc s).toArray 64) none
     refine⟨bK (aw H5.out.1 ga) (World.ownsRow.alloc HOa.out _) (by decide) HG6.out,World.ownsRow.kept (aw H5.out.2.1 ga) HG6.out (Or.inr (fun z=>Hdis.out gL rfl z.symm)),?_,ar (ae H5.out.2.2.2 ga) HG6.out (fun y e=>(World.ownsRow.lt HOa.out y e).1)⟩
     rw[List.map_append]
     exact az.more HO6.out (by rw[List.length_map,←Hna.out.1])
    obtain⟨K,hK⟩:=Qe (x+1)
    have HK:Hid (K=x+1):=hK
    have HKn:Hid (K≤n∧x≤n∧n≤64∧n≤cL):=⟨by have:=HX.out.2;omega,Nat.le_of_lt HX.out.2,Hn.out.2.2.2,Hn.out.2.2.1⟩
    have k9:(x:Int)+1=(K:Int):=by omega
    have k8:wrap64 ((K:Nat):Int)=(K:Int):=by have:=HKn.out;unfold wrap64;omega
    have x1:(x:Int)≤(cL:Int):=by have:=HKn.out;omega
    have x2:x≤cL:=by have:=HKn.out;omega
    have K1:(K:Int)≤(n:Int):=by have:=HKn.out;omega
    have K2:K≤n:=HKn.out.1
    have HLc:Hid (0+x≤maxLen∧(0+x)*56≤140737488355328):=by have:=HKn.out;exact⟨by unfold maxLen;omega,by omega⟩
    clear c0 c1 c2 c3 c4 c5 c6 c7 c8 c9 HOa HLa HLb HO6 HG6 HL6 hK xn
    go_upto_region 13 with (at_builtin;refine bE (by rfl) (.tmp 54) (.tmp 57) 30 rfl w6.heap.size 64 i0 _ 10 56 Tryz.underlying30 hi hz0 hz1 hz2 rfl (by decide) (.slice none 0 0) 0 [] rfl ⟨rfl,Or.inl ⟨rfl,rfl⟩⟩ _ x (sdR.cs (S.take x)) rfl (Cp H6.out.2.1 HSL.out.2.symm HKn.out.2.1 HKn.out.2.2.1) (sdR.ones _) HLc.out.1 HLc.out.2 (Qj _) ?_;intro v7 w7 o7 g7 _;have HO7:Hid (w7.ownsRow w6.heap.size 64 10 v7 x (sdR.cs (S.take x))):=(by have h9:=o7;rw[Nat.zero_add,List.nil_append] at h9;exact h9);have HG7:Hid (w6.grownBy w7 none):=g7;clear o7 g7)
    obtain⟨p7,c7,e7,-⟩:=br HO7.out
    subst e7
    have HMs:Hid (((L.eraseIdx x).map Se.s).length<n):=by show _<_;rw[List.length_map,←F5 Hn.out.1 HX.out.2 HK.out];have:=HK.out;have:=HX.out.2;omega
    have HZs:Hid (sdR.cs (S.take x)++sdR.cs (S.drop K)=sdR.cs ((L.eraseIdx x).map Se.s)):=by show _=_;rw[←az.app,HK.out,HSL.out.1,Cv]
    have HF8:Hid ((L.eraseIdx x).length+(A++[(⟨s,ro⟩:Se)]).length≤64):=fw8 Hfw.out (by rw[←Hn.out.1];exact HX.out.2)
    by_cases hcK:cL=K
    ·have HLd:Hid (x+(n - K)≤maxLen∧(x+(n - K))*56≤140737488355328):=by have:=HKn.out;exact⟨by unfold maxLen;omega,by omega⟩
     have HnK:Hid (n=K):=by have:=HKn.out;show _=_;omega
     have cK:(cL:Int)=(K:Int):=by rw[hcK]
     go_wp2_with (at_builtin;refine bE (by rfl) (.tmp 59) (.tmp 63) 30 rfl w6.heap.size 64 i0 _ 10 56 Tryz.underlying30 hi hz0 hz1 hz2 rfl (by decide) _ x (sdR.cs (S.take x)) rfl HO7.out _ (n - K) (sdR.cs (S.drop K)) rfl (zQ HSL.out.2.symm HnK.out) (sdR.ones _) HLd.out.1 HLd.out.2 HG7.out.size ?_;intro v8 w8 o8 g8 _;have HO8:Hid _:=o8;have HG8:Hid _:=g8;clear o8 g8)
     have HA8:Hid (AlD w w8 (.slice p5 Y.length c5') v8 v6 (gs.length:Int) (atC p gs) ts F R k Y (L.eraseIdx x) (A++[⟨s,ro⟩])):=AlD.next8 H6.out HG7.out HO7.out HO8.out HG8.out (F5 Hn.out.1 HX.out.2 HK.out) HZs.out Honc.out HF8.out
     obtain⟨p8,c8,e8⟩:=az.Own.form HA8.out.l
     subst e8
     go_roundw
     case rel=>exact⟨Y,L.eraseIdx x,A++[⟨s,ro⟩],HA8⟩
     case measure=>exact HMs.out
    ·have HLd:Hid (x+(n - K)≤maxLen∧(x+(n - K))*56≤140737488355328):=by have:=HKn.out;exact⟨by unfold maxLen;omega,by omega⟩
     have cK:K<cL:=by have:=HKn.out;omega
     go_wp2_with (at_builtin;refine bE (by rfl) (.tmp 59) (.tmp 63) 30 rfl w6.heap.size 64 i0 _ 10 56 Tryz.underlying30 hi hz0 hz1 hz2 rfl (by decide) _ x (sdR.cs (S.take x)) rfl HO7.out _ (n - K) (sdR.cs (S.drop K)) rfl (Src.keep (Db H6.out.2.1 HSL.out.2.symm HKn.out.2.2.1) HG7.out) (sdR.ones _) HLd.out.1 HLd.out.2 HG7.out.size ?_;intro v8 w8 o8 g8 _;have HO8:Hid _:=o8;have HG8:Hid _:=g8;clear o8 g8)
     have HA8:Hid (AlD w w8 (.slice p5 Y.length c5') v8 v6 (gs.length:Int) (atC p gs) ts F R k Y (L.eraseIdx x) (A++[⟨s,ro⟩])):=AlD.next8 H6.out HG7.out HO7.out HO8.out HG8.out (F5 Hn.out.1 HX.out.2 HK.out) HZs.out Honc.out HF8.out
     obtain⟨p8,c8,e8⟩:=az.Own.form HA8.out.l
     subst e8
     go_roundw
     case rel=>exact⟨Y,L.eraseIdx x,A++[⟨s,ro⟩],HA8⟩
     case measure=>exact HMs.out
   ·obtain rfl:L=[]:=List.length_eq_zero_iff.1 (by omega)
    obtain⟨x1,x2⟩:=Eb HS.out.onc
    have HN:Hid (bu F R (du R F k).1=X∧(du R F k).2=A):=⟨x1,x2⟩
    have hlt':¬((0:Int)<(([]:List Se).length:Int)):=by simp
    clear x1 x2 hlt
    go_wp2_with fail
    go_ret3
    exact⟨pO,_,cO,pA,_,cA,by rw[H0.out] <;> rfl,HS.out.gr,fun z=>absurd H0.out z,fun R' _ _ hR'=>by
     rw[HT.out.1.tab] at hR'
     cases hR'
     rw[HN.out.1,HN.out.2]
     exact⟨HS.out.o,HS.out.a⟩⟩
 ·have e0:(q != 0)=true:=by simpa using h0
  have H0:Hid (bgE (bg p ts.length) (gs.length:Int) (atC p gs) ts F k=q∧q≠0):=⟨Hq.out.symm,h0⟩
  clear h0
  go_wp2_with fail
  go_ret3
  exact⟨none,0,0,none,0,0,by rw[H0.out.1] <;> rfl,H1.out.1,fun _=>⟨rfl,rfl,rfl,rfl,rfl,rfl⟩,fun R' r0 hk hR'=>by
   have h9:=H0.out.1
   rw[r0,ri hR' hk] at h9
   exact absurd h9.symm H0.out.2⟩
end Go.Proofs.YtjmepebbcnhalaaGreat
