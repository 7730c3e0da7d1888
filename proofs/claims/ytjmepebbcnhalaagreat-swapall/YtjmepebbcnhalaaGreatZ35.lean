import Derived.Test.YtjmepebbcnhalaaGreatZRyS
namespace Go.Proofs.YtjmepebbcnhalaaGreat
open Go.RowKit Go.Shelf
variable {n:Int} {cd:Int→Hd×List Pt} {ts:List Th} {F fs:List Fe} {R:List Rw} {S:List Sd} {L:List Se} {w wr w':World} {base g c:Nat} {vl:Value} {xs:List Value} {e:Se}
theorem LsN.of (hT:Tab n cd ts F R) (hc:∀ c,(cd c).2.length≤4) (h:cH R S []=some L):LsN R ts S L:=by
 have hs:L.map Se.s=S:=by have:=yM S [] L h;simpa using this
 have hf:=(jo S [] L List.Pairwise.nil (fun e he=>absurd he (by simp)) h).2;have hlen:L.length=S.length:=by rw[←hs,Qa9]
 have hro:∀ i,i<S.length→∃ ro,L.getD i Se.none=⟨S.getD i Sd.none,ro⟩∧ro<R.length∧(R.getD ro Rw.none).nu=(S.getD i Sd.none).th:=fun i hi=>by
  have hiL:i<L.length:=by rw[hlen];exact hi
  have a:=lF (hf (L.getD i Se.none) (by rw[aG hiL];exact Qab _))
  have e:(L.getD i Se.none).s=S.getD i Sd.none:=by
   have q:(L.map Se.s)[i]?=S[i]?:=(by rw[hs]);rw[Qak,Qg hiL,Qg hi] at q;rw[aG hiL,aG hi];simpa using q
  exact⟨(L.getD i Se.none).ro,by rw[←e],a.2.1,by rw[a.2.2,e]⟩
 refine⟨hs,hT.list64 hc h,hro,fun i hi=>?_⟩;obtain⟨ro,-,h2,h3⟩:=hro i hi;obtain⟨j,t,ht,-,e⟩:=hT.row (show R.getD ro Rw.none∈R by rw[aG h2];exact Qab _);exact⟨j,t,by rw[←h3,e],ht⟩
theorem Tab.stAt (h:Tab n cd ts F R) {i j:Nat} (hij:i<j) (hj:j<R.length):(R.getD i Rw.none).st<(R.getD j Rw.none).st:=by
 have q:=Qcg.1 h.up i j (by omega) hj hij;rw[aG (show i<R.length by omega),aG hj];exact q
theorem LsN.ah (hL:LsN R ts S L) (hT:Tab n cd ts F R) {i j:Nat} (hi:i<S.length) (hj:j<S.length) (h:lL (L.getD i Se.none) (L.getD j Se.none)):ahL ts (S.getD i Sd.none) (S.getD j Sd.none)=true:=by
 obtain⟨a,a1,a2,a3⟩:=hL.ro i hi;obtain⟨b,b1,b2,b3⟩:=hL.ro j hj;rw[a1,b1] at h;unfold lL at h;rw[rz,←a3,←b3,(hT.thing a2).2.1,(hT.thing b2).2.1]
 rcases h with h | ⟨h1,h2⟩
 ·exact Or.inl (hT.stAt h b2)
 ·have h1':a=b:=h1;subst h1';exact Or.inr ⟨rfl,h2⟩
theorem Cs {G:List Fe} {x:Nat} (hL:LsN R ts S L) (hT:Tab n cd ts F R) (hs:L.Pairwise lL) (h:NxE R G ts S L x):x=eO R G L:=by
 have hlen:=hL.len
 have up:∀ i j,i<j→j<S.length→ahL ts (S.getD i Sd.none) (S.getD j Sd.none)=true:=fun i j hij hj=>by
  refine hL.ah hT (by omega) hj ?_;rw[aG (show i<L.length by omega),aG (show j<L.length by omega)];exact Qcg.1 hs i j (by omega) (by omega) hij
 obtain⟨hx,h | h⟩:=h
 ·refine(By (by omega) (fun i hi=>?_) h.1).symm;refine Bool.eq_false_iff.2 fun z=>?_;have h1:=h.2 i (by omega) z;rw[up i x hi hx] at h1;cases h1
 ·rw[xI (fun i hi=>h.1 i (by omega))];refine Nat.eq_zero_of_not_pos fun z=>?_;have h1:=h.2 0 (by omega);rw[up 0 x z hx] at h1;cases h1
set_option maxRecDepth 100000
set_option maxHeartbeats 4000000
theorem Fw {n K:Nat} (h:aV w base (.slice (some ⟨g,0,none⟩) n c) S) (hn:n=S.length) (hK:K≤n) (hm:n≤64):Src w (.slice (some ⟨g,0,none⟩) K c) K 10 (sdR.cs (S.take K)):=by
 have hl:(S.take K).length=K:=by rw[Qam];omega
 have A:sdR.At w (.slice (some ⟨g,0,none⟩) K c) (S.take K):=by
  refine⟨some ⟨g,0,none⟩,c,by rw[hl],by rw[hl];unfold maxLen;omega,fun _=>⟨g,0,rfl,fun j x hj=>?_⟩⟩;have hjK:j<K:=by have:=(Qh hj).1;omega
  rw[Qcj hjK] at hj;exact dy (n:=n) (c:=c) (aB.Own.at h) hj
 have q:=A.src;rwa [hl] at q
theorem EQ {n K:Nat} (h:aV w base (.slice (some ⟨g,0,none⟩) n c) S) (hn:n=S.length) (hm:n≤64):Src w (.slice (some ⟨g,K*10,none⟩) (n - K) (c - K)) (n - K) 10 (sdR.cs (S.drop K)):=by
 have hl:(S.drop K).length=n - K:=by rw[Qbx,hn]
 have A:sdR.At w (.slice (some ⟨g,K*10,none⟩) (n - K) (c - K)) (S.drop K):=by
  refine⟨some ⟨g,K*10,none⟩,c - K,by rw[hl],by rw[hl];unfold maxLen;omega,fun _=>⟨g,K*10,rfl,fun j x hj=>?_⟩⟩;rw[List.getElem?_drop] at hj;have q:=dy (n:=n) (c:=c) (aB.Own.at h) hj;rw[show K*10+j*sdR.k=0+(K+j)*10 from by show K*10+j*10=_;omega];exact q
 have q:=A.src;rwa [hl] at q
theorem Dv {n K:Nat} {ad:Option Addr} (hn:n=S.length) (hK:n=K):Src w (.slice ad (n - K) c) (n - K) 10 (sdR.cs (S.drop K)):=by
 rw[Qbl (by omega)];exact⟨ad,c,rfl,by rw[hK,Nat.sub_self];rfl,fun h=>absurd h (by omega)⟩
structure AlD (w wr:World) (vO vL vA:Value) (m:Int) (cd:Int→Hd×List Pt) (ts:List Th) (fs:List Fe) (R:List Rw) (k:Int) (X:List Fe) (L A:List Se):Prop where
 o:cJ wr w.heap.size vO X
 l:aV wr w.heap.size vL (L.map Se.s)
 a:aV wr w.heap.size vA (A.map Se.s)
 dis:∀ b,vL.ownBlock=some b→vA.ownBlock≠some b
 onc:Onc m cd ts fs R k X L A
 gr:w.grownBy wr none
 fw:L.length+A.length≤64
theorem AlD.grow {vO vL vA:Value} {m:Int} {k:Int} {X:List Fe} {A:List Se} (h:AlD w wr vO vL vA m cd ts fs R k X L A) (g:wr.grownBy w' none):AlD w w' vO vL vA m cd ts fs R k X L A:=⟨aC h.o g,aC h.l g,aC h.a g,h.dis,h.onc,aa h.gr g,h.fw⟩
theorem FO {x:Nat}:(L.map Se.s).take x++(L.map Se.s).drop (x+1)=(L.eraseIdx x).map Se.s:=by
 rw[List.eraseIdx_eq_take_drop_succ,Qbb,List.map_take,List.map_drop]
theorem ER {m:Int} {k:Int} {X:List Fe} {A:List Se} (h:Onc m cd ts fs R k X [] A):ei fs R (jZ R fs k).1=X∧(jZ R fs k).2=A:=⟨h.end,by rw[h.all];rfl⟩
theorem AlD.next8 {w6 w7 w8:World} {vO v7 v8 v6:Value} {m:Int} {k:Int} {Y:List Fe} {M B:List Se} {x nn:Nat} {zs:List Value} (h6:cJ w6 w.heap.size vO Y∧aV w6 w.heap.size vl S∧aV w6 w.heap.size v6 (B.map Se.s)∧w.grownBy w6 none) (g7:w6.grownBy w7 none) (o7:w7.ownsRow w6.heap.size 64 10 v7 x xs) (o8:w8.ownsRow w6.heap.size 64 10 v8 nn zs) (g8:w7.grownBy w8 v7.ownBlock) (hlen:nn=M.length) (hz:zs=sdR.cs (M.map Se.s)) (onc:Onc m cd ts fs R k Y M B) (fw:M.length+B.length≤64):AlD w w8 vO v8 v6 m cd ts fs R k Y M B:=by
 refine⟨dS (aC h6.1 g7) o7 (by decide) g8,?_,?_,?_,onc,ak (aa h6.2.2.2 g7) g8 (fun y e=>Ql h6.2.2.2.size (Qa5 o7 y e).1),fw⟩
 ·have q:aV w8 w6.heap.size v8 (M.map Se.s):=by
   unfold aV aB.Own;rw[Qa9,←hlen,←hz];exact o8
  exact bj q h6.2.2.2.size
 ·refine Qav (aC h6.2.2.1 g7) g8 ?_;cases hv:v6.ownBlock with
  | none=>exact Or.inl rfl
  | some b =>
   refine Or.inr fun z=>?_;have h1:=(Qa5 h6.2.2.1 b hv).2;have h2:=(Qa5 o7 b z.symm).1;omega
 ·intro b hb z;have h1:=(Qa5 h6.2.2.1 b z).2;have h2:=(Qa5 o8 b hb).1;omega
theorem GB {x n K:Nat} (hn:n=L.length) (hx:x<n) (hK:K=x+1):x+(n - K)=(L.eraseIdx x).length:=by
 rw[List.length_eraseIdx,if_pos (by omega)];omega
theorem fw8 {A:List Se} {x:Nat} (h:L.length+A.length≤64) (hx:x<L.length):(L.eraseIdx x).length+(A++[e]).length≤64:=by
 rw[List.length_eraseIdx,if_pos hx,Qa,Qax];omega
theorem BW (ok:Nat→Prop) (r:Nat) (v:Value) (p:Pl) (gs:List Ent) (vt vf:Value) (ts:List Th) (F:List Fe) (k:Int) (w:World) (B:RD ok w r v p gs) (A:thR.At w vt ts) (AF:feR.At w vf F) (hr:TrI F):Calls Tryz.prog 16 #[.pointer (some ⟨r,0,none⟩),vt,vf,.int .i64 k] w (kw w (aX p ts.length) (gs.length:Int) (atC p gs) ts F k):=by
 obtain⟨iF,hiF,hF0,hF1,hF2⟩:=info_parts Tryz.linfoF;obtain⟨i0,hi,hz0,hz1,hz2⟩:=info_parts Tryz.linfoD;obtain⟨pt,ct,rfl⟩:=A.form;obtain⟨pf,cf,rfl⟩:=AF.form;have C1:=kR ok r v p gs _ _ ts F k w B A AF hr;unfold fU at C1;have HV:QH (RD ok w r v p gs∧thR.At w (.slice pt ts.length ct) ts∧feR.At w (.slice pf F.length cf) F):=⟨B,A,AF⟩
 clear B A AF hr;go_enter Tryz.func16,Tryz.ntmps16;go_wp2_with fail;refine C1.mono ?_;rintro e1 w1 ⟨pL,mL,cL,rfl,g1,h1,h2⟩;obtain⟨q,hq⟩:=Qe (bgE (aX p ts.length) (gs.length:Int) (atC p gs) ts F k);have Hq:QH (q=bgE (aX p ts.length) (gs.length:Int) (atC p gs) ts F k):=hq;have Hh2:QH (∀ R,aX p ts.length=0→1≤k∧k≤5→bI (gs.length:Int) (atC p gs) ts F=some R→aV w1 w.heap.size (.slice pL mL cL) ((dI R (ay R F) k).map Se.s)):=h2;have H1:QH (w.grownBy w1 none∧RD ok w1 r v p gs∧thR.At w1 (.slice pt ts.length ct) ts∧feR.At w1 (.slice pf F.length cf) F):=⟨g1,HV.o.1.keep g1,HV.o.2.1.keep g1,HV.o.2.2.keep g1⟩
 rw[←hq];clear C1 g1 h1 h2 hq;by_cases h0:q=0
 ·have e0:(q != 0)=false:=by rw[h0];rfl
  have H0:QH (bgE (aX p ts.length) (gs.length:Int) (atC p gs) ts F k=0):=by show _=_;rw[←Hq.o,h0]
  obtain⟨r0,hk5,R,hR⟩:=lD H0.o
  have hlen:ts.length≤2048:=Qac fun z=>by
   unfold aX at r0;rw[if_pos z] at r0;cases r0
  have HT:QH (Tab (gs.length:Int) (atC p gs) ts F R∧ts.length≤2048∧F.length≤2048):=⟨Tab.of hR,hlen,by rw[←(Tab.of hR).len];exact hlen⟩
  have HD0:QH (aV w1 w.heap.size (.slice pL mL cL) ((dI R (ay R F) k).map Se.s)):=Hh2.o R r0 hk5 hR;have HSrc:QH (Src w1 (.slice pf F.length cf) F.length 5 (feR.cs F)):=aB.At.src H1.o.2.2.2;have HL5:QH (0+F.length≤maxLen∧(0+F.length)*32≤140737488355328):=by have:=HT.o.2.2;exact⟨by unfold maxLen;omega,by omega⟩
  have Hc4:QH (∀ c,(atC p gs c).2.length≤4):=HV.o.1.four;clear h0 r0 hk5 hR hlen Hh2;go_upto_region 6 with (at_builtin;refine br (by rfl) (.tmp 28) (.tmp 29) 27 rfl w.heap.size 122 iF _ 5 32 Tryz.underlying27 hiF hF0 hF1 hF2 rfl (by decide) (.slice none 0 0) 0 [] rfl ⟨rfl,Or.inl ⟨rfl,rfl⟩⟩ _ F.length (feR.cs F) rfl HSrc.o (feR.ones F) HL5.o.1 HL5.o.2 H1.o.1.size ?_;intro v9 w9 o9 g9 _;have HO9:QH (cJ w9 w.heap.size v9 F):=(by have h9:=o9;rw[Qa8,Qaz] at h9;exact h9);have HG9:QH (w1.grownBy w9 none):=g9;clear o9 g9)
  have HA0:QH (AlD w w9 v9 (.slice pL mL cL) (.slice none 0 0) (gs.length:Int) (atC p gs) ts F R k F (dI R (ay R F) k) []):=⟨HO9.o,aC HD0.o HG9.o,aB.Own.nil _ _ _ _,fun b _ z=>(by cases z),Onc.start HT.o.1,aa H1.o.1 HG9.o,by have:=HT.o.1.effs Hc4.o (ay R F) k;simpa using this⟩
  clear HSrc HL5 HO9 HG9 HD0;go_wp2_with fail;go_loopw [11,13,14,15,16] (fun vL vO vA _ _ wr=>∃ (X:List Fe) (L A:List Se),QH (AlD w wr vO vL vA (gs.length:Int) (atC p gs) ts F R k X L A)) (fun vL _ _ _ _ _=>DM vL)
  case atStart=>exact⟨F,dI R (ay R F) k,[],HA0.o⟩
  case round =>
   clear HA0;obtain⟨X,L,A,HS⟩:=hrel;obtain⟨U,hU⟩:=Qe (wr);subst hU;obtain⟨pL,cL,rfl⟩:=aB.Own.form HS.o.l;obtain⟨pA,cA,rfl⟩:=aB.Own.form HS.o.a;obtain⟨pO,cO,rfl⟩:=aB.Own.form HS.o.o;rw[Qa9] at HS ⊢;rw[Qa9] at HS ⊢;by_cases hlt:0<L.length
   ·skip
    have hS0:0<(L.map Se.s).length:=(by rw[Qa9];exact hlt);have HLs:QH (LsN R ts (L.map Se.s) L):=LsN.of HS.o.onc.tab Hc4.o HS.o.onc.list;obtain⟨gL,cL',eL,hgb,hgl,hnc,-,-⟩:=eB HS.o.l hS0;injection eL with eL1 eL2 eL3;clear eL2;subst eL1;subst eL3;obtain⟨n,hn⟩:=Qe (L.length);have Hn:QH (n=L.length∧0<n∧n≤cL∧n≤64):=⟨hn,by omega,by rw[hn];rw[Qa9] at hnc;exact hnc,by have:=HS.o.fw;omega⟩
    have CN:=A7 ok r v p gs _ _ _ ts X R (L.map Se.s) L U (HV.o.1.keep HS.o.gr) (HV.o.2.1.keep HS.o.gr) (aB.Own.at HS.o.o) (aB.Own.at HS.o.l) HS.o.onc.tab HT.o.2.1 HLs.o hS0;rw[←hn] at CN HS ⊢;have hlt':(0:Int)<(n:Int):=(by omega);clear hlt hS0 hn hgb hgl hnc;go_wp2_with fail;refine CN.mono ?_;rintro e4 w4 ⟨x,rfl,hx,g4⟩;have HX:QH (x=eO R (ay R X) L∧x<n):=⟨Cs HLs.o HS.o.onc.tab HS.o.onc.up hx,by rw[Hn.o.1,←HLs.o.len.symm];exact hx.1⟩
    have H4:QH (AlD w w4 (.slice pO X.length cO) (.slice (some ⟨gL,0,none⟩) n cL) (.slice pA A.length cA) (gs.length:Int) (atC p gs) ts F R k X L A):=HS.o.grow g4;clear CN hx g4 HS;obtain⟨S,hS⟩:=Qe (L.map Se.s);have HSL:QH (S=L.map Se.s∧S.length=n):=⟨hS,by rw[hS,Qa9,Hn.o.1]⟩
    obtain⟨ro,b1,b2,b3⟩:=HLs.o.ro x (by rw[Qa9,←Hn.o.1];exact HX.o.2);obtain⟨s,hs⟩:=Qe ((L.map Se.s).getD x Sd.none);rw[←hs] at b1 b3;have Hsx:QH (S[x]?=some s∧L.getD x Se.none=⟨s,ro⟩):=⟨by rw[hS];exact atD (by rw[Qa9,←Hn.o.1];exact HX.o.2) hs.symm,b1⟩
    have RR:=dy (aB.Own.at H4.o.l) (show (L.map Se.s)[x]?=some s by rw[←hS];exact Hsx.o.1);rw[Qa8] at RR;obtain⟨c0,c1,c2,c3,c4,c5,c6,c7,c8,c9⟩:=bu RR;have C5:=oU ok r v p gs _ _ ts X R s ro w4 (HV.o.1.keep H4.o.gr) (HV.o.2.1.keep H4.o.gr) (aB.Own.at H4.o.o) H4.o.onc.tab b2 b3 HT.o.2.1;unfold sdv at C5;have xn:(x:Int)<(n:Int):=Int.ofNat_lt.2 HX.o.2;clear hS hs b1 b2 b3 RR;go_wp2_with fail;refine C5.mono ?_;rintro e5 w5 ⟨v5,rfl,o5,g5⟩;obtain⟨p5,c5',ev5⟩:=aB.Own.form o5;obtain⟨Y,hY⟩:=Qe (ei X R (bK R (ay R X) ⟨s,ro⟩));have HY:QH (Y=ei X R (bK R (ay R X) ⟨s,ro⟩)):=hY;rw[←hY] at o5 ev5;subst ev5;have H5:QH (cJ w5 w.heap.size (.slice p5 Y.length c5') Y∧aV w5 w.heap.size (.slice (some ⟨gL,0,none⟩) n cL) S∧aV w5 w.heap.size (.slice pA A.length cA) (A.map Se.s)∧w.grownBy w5 none):=⟨bj o5 H4.o.gr.size,by rw[HSL.o.1];exact aC H4.o.l g5,aC H4.o.a g5,aa H4.o.gr g5⟩
    have Hdis:QH (∀ b,(Value.slice (some ⟨gL,0,none⟩) n cL).ownBlock=some b→(Value.slice pA A.length cA).ownBlock≠some b):=H4.o.dis
    have Honc:QH (Onc (gs.length:Int) (atC p gs) ts F R k Y (L.eraseIdx x) (A++[⟨s,ro⟩])):=by
     have q:=H4.o.onc.step (by rw[←Hn.o.1];exact Hn.o.2.1);rw[←HX.o.1,Hsx.o.2] at q;show Onc _ _ _ _ _ _ _ _ _;rw[hY];exact q
    have Hfw:QH (L.length+A.length≤64):=H4.o.fw;clear C5 o5 g5 hY H4 c0 c1 c2 c3 c4 c5 c6 c7 c8 c9;have RR:=dy (aB.Own.at H5.o.2.1) Hsx.o.1;rw[Qa8] at RR;obtain⟨c0,c1,c2,c3,c4,c5,c6,c7,c8,c9⟩:=bu RR;clear RR;obtain⟨na,hna⟩:=Qe (A.length);have Hna:QH (na=A.length∧na≤64):=⟨hna,by have:=Hfw.o;omega⟩
    have HOa:QH (w5.ownsRow w.heap.size 64 10 (.slice pA na cA) na (sdR.cs (A.map Se.s))):=by
     have h9:=H5.o.2.2.1;unfold aV aB.Own at h9;rw[Qa9,←hna] at h9;exact h9
    rw[←hna] at Hdis ⊢;clear hna;have HLa:QH (na+1≤maxLen∧(na+1)*56≤140737488355328):=Cf rfl (Ql Hna.o.2 (by decide));have HLb:QH (w.heap.size≤(w5.alloc (.cells (sdc s).toArray 64)).heap.size):=Ql H5.o.2.2.2.size (Qa0 w5 _ none).size;go_upto_region 11 with (at_builtin;refine br (by rfl) (.tmp 47) (.tmp 52) 30 rfl w.heap.size 64 i0 _ 10 56 Tryz.underlying30 hi hz0 hz1 hz2 rfl (by decide) _ na (sdR.cs (A.map Se.s)) rfl (Qaq HOa.o _) _ 1 (sdc s) rfl (Df w5 s) (fx _) HLa.o.1 HLa.o.2 HLb.o ?_;intro v6 w6 o6 g6 l6;have HO6:QH _:=o6;have HG6:QH _:=g6;have HL6:QH _:=l6;clear o6 g6 l6)
    have H6:QH (cJ w6 w.heap.size (.slice p5 Y.length c5') Y∧aV w6 w.heap.size (.slice (some ⟨gL,0,none⟩) n cL) S∧aV w6 w.heap.size v6 ((A++[(⟨s,ro⟩:Se)]).map Se.s)∧w.grownBy w6 none):=by
     have ga:=Qa0 w5 (.cells (sdc s).toArray 64) none;refine⟨dS (aC H5.o.1 ga) (Qaq HOa.o _) (by decide) HG6.o,Qav (aC H5.o.2.1 ga) HG6.o (Or.inr (fun z=>Hdis.o gL rfl z.symm)),?_,ak (aa H5.o.2.2.2 ga) HG6.o (fun y e=>(Qa5 HOa.o y e).1)⟩;rw[Qbb];exact aB.more HO6.o (by rw[Qa9,←Hna.o.1])
    obtain⟨K,hK⟩:=Qe (x+1);have HK:QH (K=x+1):=hK;have HKn:QH (K≤n∧x≤n∧n≤64∧n≤cL):=⟨by have:=HX.o.2;omega,Qaf HX.o.2,Hn.o.2.2.2,Hn.o.2.2.1⟩
    have k9:(x:Int)+1=(K:Int):=(by omega);have k8:wrap64 ((K:Nat):Int)=(K:Int):=(by have:=HKn.o;unfold wrap64;omega);have x1:(x:Int)≤(cL:Int):=(by have:=HKn.o;omega);have x2:x≤cL:=(by have:=HKn.o;omega);have K1:(K:Int)≤(n:Int):=(by have:=HKn.o;omega);have K2:K≤n:=HKn.o.1;have HLc:QH (0+x≤maxLen∧(0+x)*56≤140737488355328):=(by have:=HKn.o;exact⟨by unfold maxLen;omega,by omega⟩);clear c0 c1 c2 c3 c4 c5 c6 c7 c8 c9 HOa HLa HLb HO6 HG6 HL6 hK xn;go_upto_region 13 with (at_builtin;refine br (by rfl) (.tmp 54) (.tmp 57) 30 rfl w6.heap.size 64 i0 _ 10 56 Tryz.underlying30 hi hz0 hz1 hz2 rfl (by decide) (.slice none 0 0) 0 [] rfl ⟨rfl,Or.inl ⟨rfl,rfl⟩⟩ _ x (sdR.cs (S.take x)) rfl (Fw H6.o.2.1 HSL.o.2.symm HKn.o.2.1 HKn.o.2.2.1) (sdR.ones _) HLc.o.1 HLc.o.2 (Qj _) ?_;intro v7 w7 o7 g7 _;have HO7:QH (w7.ownsRow w6.heap.size 64 10 v7 x (sdR.cs (S.take x))):=(by have h9:=o7;rw[Qa8,Qaz] at h9;exact h9);have HG7:QH (w6.grownBy w7 none):=g7;clear o7 g7)
    obtain⟨p7,c7,e7,-⟩:=bZ HO7.o;subst e7;have HMs:QH (((L.eraseIdx x).map Se.s).length<n):=(by show _<_;rw[Qa9,←GB Hn.o.1 HX.o.2 HK.o];have:=HK.o;have:=HX.o.2;omega);have HZs:QH (sdR.cs (S.take x)++sdR.cs (S.drop K)=sdR.cs ((L.eraseIdx x).map Se.s)):=(by show _=_;rw[←aB.app,HK.o,HSL.o.1,FO]);have HF8:QH ((L.eraseIdx x).length+(A++[(⟨s,ro⟩:Se)]).length≤64):=fw8 Hfw.o (by rw[←Hn.o.1];exact HX.o.2);by_cases hcK:cL=K
    ·have HLd:QH (x+(n - K)≤maxLen∧(x+(n - K))*56≤140737488355328):=(by have:=HKn.o;exact⟨by unfold maxLen;omega,by omega⟩);have HnK:QH (n=K):=(by have:=HKn.o;show _=_;omega);have cK:(cL:Int)=(K:Int):=(by rw[hcK]);go_wp2_with (at_builtin;refine br (by rfl) (.tmp 59) (.tmp 63) 30 rfl w6.heap.size 64 i0 _ 10 56 Tryz.underlying30 hi hz0 hz1 hz2 rfl (by decide) _ x (sdR.cs (S.take x)) rfl HO7.o _ (n - K) (sdR.cs (S.drop K)) rfl (Dv HSL.o.2.symm HnK.o) (sdR.ones _) HLd.o.1 HLd.o.2 HG7.o.size ?_;intro v8 w8 o8 g8 _;have HO8:QH _:=o8;have HG8:QH _:=g8;clear o8 g8)
     have HA8:QH (AlD w w8 (.slice p5 Y.length c5') v8 v6 (gs.length:Int) (atC p gs) ts F R k Y (L.eraseIdx x) (A++[⟨s,ro⟩])):=AlD.next8 H6.o HG7.o HO7.o HO8.o HG8.o (GB Hn.o.1 HX.o.2 HK.o) HZs.o Honc.o HF8.o;obtain⟨p8,c8,e8⟩:=aB.Own.form HA8.o.l;subst e8;go_roundw
     case rel=>exact⟨Y,L.eraseIdx x,A++[⟨s,ro⟩],HA8⟩
     case measure=>exact HMs.o
    ·have HLd:QH (x+(n - K)≤maxLen∧(x+(n - K))*56≤140737488355328):=(by have:=HKn.o;exact⟨by unfold maxLen;omega,by omega⟩);have cK:K<cL:=(by have:=HKn.o;omega);go_wp2_with (at_builtin;refine br (by rfl) (.tmp 59) (.tmp 63) 30 rfl w6.heap.size 64 i0 _ 10 56 Tryz.underlying30 hi hz0 hz1 hz2 rfl (by decide) _ x (sdR.cs (S.take x)) rfl HO7.o _ (n - K) (sdR.cs (S.drop K)) rfl (Src.keep (EQ H6.o.2.1 HSL.o.2.symm HKn.o.2.2.1) HG7.o) (sdR.ones _) HLd.o.1 HLd.o.2 HG7.o.size ?_;intro v8 w8 o8 g8 _;have HO8:QH _:=o8;have HG8:QH _:=g8;clear o8 g8)
     have HA8:QH (AlD w w8 (.slice p5 Y.length c5') v8 v6 (gs.length:Int) (atC p gs) ts F R k Y (L.eraseIdx x) (A++[⟨s,ro⟩])):=AlD.next8 H6.o HG7.o HO7.o HO8.o HG8.o (GB Hn.o.1 HX.o.2 HK.o) HZs.o Honc.o HF8.o;obtain⟨p8,c8,e8⟩:=aB.Own.form HA8.o.l;subst e8;go_roundw
     case rel=>exact⟨Y,L.eraseIdx x,A++[⟨s,ro⟩],HA8⟩
     case measure=>exact HMs.o
   ·obtain rfl:L=[]:=List.length_eq_zero_iff.1 (by omega);obtain⟨x1,x2⟩:=ER HS.o.onc;have HN:QH (ei F R (jZ R F k).1=X∧(jZ R F k).2=A):=⟨x1,x2⟩
    have hlt':¬((0:Int)<(([]:List Se).length:Int)):=(by simp);clear x1 x2 hlt;go_wp2_with fail;go_ret3
    exact⟨pO,_,cO,pA,_,cA,by rw[H0.o] <;> rfl,HS.o.gr,fun z=>absurd H0.o z,fun R' _ _ hR'=>by
     rw[HT.o.1.tab] at hR';cases hR';rw[HN.o.1,HN.o.2]
     exact⟨HS.o.o,HS.o.a⟩⟩
 ·have e0:(q != 0)=true:=by simpa using h0
  have H0:QH (bgE (aX p ts.length) (gs.length:Int) (atC p gs) ts F k=q∧q≠0):=⟨Hq.o.symm,h0⟩
  clear h0;go_wp2_with fail;go_ret3
  exact⟨none,0,0,none,0,0,by rw[H0.o.1] <;> rfl,H1.o.1,fun _=>⟨rfl,rfl,rfl,rfl,rfl,rfl⟩,fun R' r0 hk hR'=>by
   have h9:=H0.o.1;rw[r0,rQ hR' hk] at h9
   exact absurd h9.symm H0.o.2⟩
