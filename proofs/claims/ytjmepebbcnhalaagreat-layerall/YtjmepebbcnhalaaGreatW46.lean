import Derived.Test.YtjmepebbcnhalaaGreatWRyS
import Derived.Test.YtjmepebbcnhalaaGreatW33
import Derived.Test.YtjmepebbcnhalaaGreatW32
import Derived.Test.YtjmepebbcnhalaaGreatW15
import Derived.Laws.StructEq
import Derived.ChangeKeysEq
namespace Go.Proofs.YtjmepebbcnhalaaGreat
set_option maxRecDepth 100000
set_option maxHeartbeats 4000000
open Go.RowKit Go.Shelf
theorem LsN.of {n:Int} {cd:Int→Hd×List Pt} {ts:List Th} {F:List Fe} {R:List Rw} {S:List Sd} {L:List Se} (hT:Tab n cd ts F R) (hc:∀ c,(cd c).2.length≤4) (h:aN R S []=some L):LsN R ts S L:=by
 have hs:L.map Se.s=S:=by have:=qn S [] L h;simpa using this
 have hf:=(fm S [] L List.Pairwise.nil (fun e he=>absurd he (by simp)) h).2
 have hlen:L.length=S.length:=by rw[←hs,List.length_map]
 have hro:∀ i,i<S.length→∃ ro,L.getD i Se.none=⟨S.getD i Sd.none,ro⟩∧ro<R.length∧(R.getD ro Rw.none).nu=(S.getD i Sd.none).th:=fun i hi=>by
  have hiL:i<L.length:=by rw[hlen];exact hi
  have a:=dO (hf (L.getD i Se.none) (by rw[aC hiL];exact List.getElem_mem _))
  have e:(L.getD i Se.none).s=S.getD i Sd.none:=by
   have q:(L.map Se.s)[i]?=S[i]?:=by rw[hs]
   rw[List.getElem?_map,List.getElem?_eq_getElem hiL,List.getElem?_eq_getElem hi] at q
   rw[aC hiL,aC hi]
   simpa using q
  exact⟨(L.getD i Se.none).ro,by rw[←e],a.2.1,by rw[a.2.2,e]⟩
 refine⟨hs,hT.list64 hc h,hro,fun i hi=>?_⟩
 obtain⟨ro,-,h2,h3⟩:=hro i hi
 obtain⟨j,t,ht,-,e⟩:=hT.row (show R.getD ro Rw.none∈R by rw[aC h2];exact List.getElem_mem _)
 exact⟨j,t,by rw[←h3,e],ht⟩
theorem C0 {n:Nat} (h:0<n):((n:Int) == 0)=false:=by
 rw[beq_eq_false_iff_ne]
 omega
theorem Cp {n:Nat} (h:¬0<n):((n:Int) == 0)=true:=by
 rw[beq_iff_eq]
 omega
def qg (w:World) (r n:Int) (cd:Int→Hd×List Pt) (ts:List Th) (fs:List Fe) (S:List Sd) (e:Ending) (w':World):Prop:=∃ p:Int,e=.returned (.tuple #[.int .i64 p,.int .i64 (lkE r n cd ts fs S)])∧w.grownBy w' none∧(lkE r n cd ts fs S≠0→p=0)∧∀ R L,r=0→bi n cd ts fs=some R→aN R S []=some L→if L=[] then p=-1 else ∃ x:Nat,p=(x:Int)∧NxE R (aq R fs) ts S L x
theorem wX (ok:Nat→Prop) (r:Nat) (v:Value) (p:Pl) (gs:List Ent) (vt vf vs:Value) (ts:List Th) (F:List Fe) (S:List Sd) (w:World) (B:RD ok w r v p gs) (A:thR.At w vt ts) (AF:feR.At w vf F) (AS:sdR.At w vs S) (hr:TrI F):Calls Tryz.prog 12 #[.pointer (some ⟨r,0,none⟩),vt,vf,vs] w (qg w (bG p ts.length) (gs.length:Int) (atC p gs) ts F S):=by
 obtain⟨pt,ct,rfl⟩:=A.form
 obtain⟨pf,cf,rfl⟩:=AF.form
 obtain⟨ps,cs,rfl⟩:=AS.form
 have C1:=fQ ok r v p gs _ _ ts F w B A AF hr
 have HV:Hid (RD ok w r v p gs∧thR.At w (.slice pt ts.length ct) ts∧feR.At w (.slice pf F.length cf) F∧sdR.At w (.slice ps S.length cs) S):=⟨B,A,AF,AS⟩
 obtain⟨q,hq⟩:∃ q,q=lkE (bG p ts.length) (gs.length:Int) (atC p gs) ts F []:=⟨_,rfl⟩
 have Hq:Hid (q=lkE (bG p ts.length) (gs.length:Int) (atC p gs) ts F []):=hq
 rw[←hq] at C1
 clear B A AF AS hr hq
 go_enter Tryz.func12,Tryz.ntmps12
 go_wp2_with fail
 refine C1.mono ?_
 rintro e1 w1 ⟨rfl,g1⟩
 have H1:Hid (w.grownBy w1 none∧RD ok w1 r v p gs∧thR.At w1 (.slice pt ts.length ct) ts∧feR.At w1 (.slice pf F.length cf) F∧sdR.At w1 (.slice ps S.length cs) S):=⟨g1,HV.out.1.keep g1,HV.out.2.1.keep g1,HV.out.2.2.1.keep g1,HV.out.2.2.2.keep g1⟩
 clear C1 g1 HV
 by_cases h0:q=0
 ·obtain⟨r0,R,hR⟩:=ib (Hq.out.symm.trans h0)
  have hlen:ts.length≤2048:=Nat.le_of_not_lt fun z=>by
   unfold bG at r0
   rw[if_pos z] at r0
   cases r0
  have HT:Hid (bG p ts.length=0∧Tab (gs.length:Int) (atC p gs) ts F R∧ts.length≤2048):=⟨r0,Tab.of hR,hlen⟩
  have e0:(q != 0)=false:=by rw[h0];rfl
  have C2:=l8 ok r v p gs _ _ ts F R S w1 H1.out.2.1 H1.out.2.2.1 H1.out.2.2.2.2 (Tab.of hR) H1.out.2.1.four hlen
  obtain⟨fd,hfd⟩:∃ fd,fd=aN R S []:=⟨_,rfl⟩
  have Hfd:Hid (aN R S []=fd):=hfd.symm
  rw[←hfd] at C2
  clear h0 r0 hR hlen hfd
  go_wp2_with fail
  refine C2.mono ?_
  rintro e2 w2 ⟨rfl,g2⟩
  have H2:Hid (w.grownBy w2 none∧RD ok w2 r v p gs∧thR.At w2 (.slice pt ts.length ct) ts∧feR.At w2 (.slice pf F.length cf) F∧sdR.At w2 (.slice ps S.length cs) S):=⟨aa H1.out.1 g2,H1.out.2.1.keep g2,H1.out.2.2.1.keep g2,H1.out.2.2.2.1.keep g2,H1.out.2.2.2.2.keep g2⟩
  clear C2 g2 H1
  cases fd with
  | none =>
   rw[show (none:Option (List Se)).isSome=false from rfl]
   go_wp2_with fail
   go_ret2
   have hl2:lkE (bG p ts.length) (gs.length:Int) (atC p gs) ts F S=2:=by rw[HT.out.1,gD HT.out.2.1.tab Hfd.out]
   exact⟨0,by rw[hl2] <;> rfl,H2.out.1,fun _=>rfl,fun R' L' _ hR' hL'=>by rw[HT.out.2.1.tab] at hR';cases hR';rw[Hfd.out] at hL';cases hL'⟩
  | some L =>
   have hl2:Hid (lkE (bG p ts.length) (gs.length:Int) (atC p gs) ts F S=0):=by show _=_;rw[HT.out.1,eE HT.out.2.1.tab Hfd.out]
   rw[show (some L).isSome=true from rfl]
   have HLn:Hid (LsN R ts S L):=LsN.of HT.out.2.1 H2.out.2.1.four Hfd.out
   by_cases hS:0<S.length
   ·have d0:((S.length:Int) == 0)=false:=C0 hS
    have C3:=nV ok r v p gs _ _ _ ts F R S L w2 H2.out.2.1 H2.out.2.2.1 H2.out.2.2.2.1 H2.out.2.2.2.2 HT.out.2.1 HT.out.2.2 HLn.out hS
    have HNe:Hid (L≠[]):=fun z=>by have:=HLn.out.len;rw[z] at this;simp at this;omega
    clear hS
    go_wp2_with fail
    refine C3.mono ?_
    rintro e3 w3 ⟨x,rfl,hx,g3⟩
    have H3:Hid (NxE R (aq R F) ts S L x∧w.grownBy w3 none):=⟨hx,aa H2.out.1 g3⟩
    clear C3 hx g3
    go_wp2_with fail
    go_ret2
    exact⟨(x:Int),by rw[hl2.out] <;> rfl,H3.out.2,fun z=>absurd hl2.out z,fun R' L' _ hR' hL'=>by
     rw[HT.out.2.1.tab] at hR'
     cases hR'
     rw[Hfd.out] at hL'
     cases hL'
     rw[if_neg HNe.out]
     exact⟨x,rfl,H3.out.1⟩⟩
   ·have d0:((S.length:Int) == 0)=true:=Cp hS
    have HNe:Hid (L=[]):=by
     have:=HLn.out.len
     exact List.length_eq_zero_iff.1 (by omega)
    clear hS
    go_wp2_with fail
    go_ret2
    exact⟨-1,by rw[hl2.out] <;> rfl,H2.out.1,fun z=>absurd hl2.out z,fun R' L' _ hR' hL'=>by
     rw[HT.out.2.1.tab] at hR'
     cases hR'
     rw[Hfd.out] at hL'
     cases hL'
     rw[if_pos HNe.out]⟩
 ·have e0:(q != 0)=true:=by simpa using h0
  have HN:Hid (lkE (bG p ts.length) (gs.length:Int) (atC p gs) ts F S=q):=by show _=_;rw[ls (by rw[←Hq.out];exact h0),←Hq.out]
  have H0:Hid (q≠0):=h0
  clear h0
  go_wp2_with fail
  go_ret2
  exact⟨0,by rw[HN.out] <;> rfl,H1.out.1,fun _=>rfl,fun R' L' r0 hR' _=>by
   have h9:=Hq.out
   rw[r0,eI hR'] at h9
   exact absurd h9 H0.out⟩
theorem Tab.stAt {n:Int} {cd:Int→Hd×List Pt} {ts:List Th} {F:List Fe} {R:List Rw} (h:Tab n cd ts F R) {i j:Nat} (hij:i<j) (hj:j<R.length):(R.getD i Rw.none).st<(R.getD j Rw.none).st:=by
 have q:=List.pairwise_iff_getElem.1 h.up i j (by omega) hj hij
 rw[aC (show i<R.length by omega),aC hj]
 exact q
theorem LsN.ah {n:Int} {cd:Int→Hd×List Pt} {ts:List Th} {F:List Fe} {R:List Rw} {S:List Sd} {L:List Se} (hL:LsN R ts S L) (hT:Tab n cd ts F R) {i j:Nat} (hi:i<S.length) (hj:j<S.length) (h:jB (L.getD i Se.none) (L.getD j Se.none)):ahL ts (S.getD i Sd.none) (S.getD j Sd.none)=true:=by
 obtain⟨a,a1,a2,a3⟩:=hL.ro i hi
 obtain⟨b,b1,b2,b3⟩:=hL.ro j hj
 rw[a1,b1] at h
 unfold jB at h
 rw[qC,←a3,←b3,(hT.thing a2).2.1,(hT.thing b2).2.1]
 rcases h with h | ⟨h1,h2⟩
 ·exact Or.inl (hT.stAt h b2)
 ·have h1':a=b:=h1
  subst h1'
  exact Or.inr ⟨rfl,h2⟩
theorem za {n:Int} {cd:Int→Hd×List Pt} {ts:List Th} {F G:List Fe} {R:List Rw} {S:List Sd} {L:List Se} {x:Nat} (hL:LsN R ts S L) (hT:Tab n cd ts F R) (hs:L.Pairwise jB) (h:NxE R G ts S L x):x=bX R G L:=by
 have hlen:=hL.len
 have up:∀ i j,i<j→j<S.length→ahL ts (S.getD i Sd.none) (S.getD j Sd.none)=true:=fun i j hij hj=>by
  refine hL.ah hT (by omega) hj ?_
  rw[aC (show i<L.length by omega),aC (show j<L.length by omega)]
  exact List.pairwise_iff_getElem.1 hs i j (by omega) (by omega) hij
 obtain⟨hx,h | h⟩:=h
 ·refine(rz (by omega) (fun i hi=>?_) h.1).symm
  refine Bool.eq_false_iff.2 fun z=>?_
  have h1:=h.2 i (by omega) z
  rw[up i x hi hx] at h1
  cases h1
 ·rw[mq (fun i hi=>h.1 i (by omega))]
  refine Nat.eq_zero_of_not_pos fun z=>?_
  have h1:=h.2 0 (by omega)
  rw[up 0 x z hx] at h1
  cases h1
def Kd (L:List Se):Prop:=L.Pairwise fun a b=>¬(a.ro=b.ro∧a.s.pl=b.s.pl)
theorem Kd.perm {L L':List Se} (h:Kd L) (p:L'.Perm L):Kd L':=p.symm.pairwise h (fun q z=>q ⟨z.1.symm,z.2.symm⟩)
theorem Kd.inj {L:List Se} (h:Kd L) {i j:Nat} (hi:i<L.length) (hj:j<L.length) (h1:L[i].ro=L[j].ro) (h2:L[i].s.pl=L[j].s.pl):i=j:=by
 rcases Nat.lt_trichotomy i j with z | z | z
 ·exact(List.pairwise_iff_getElem.1 h i j hi hj z ⟨h1,h2⟩).elim
 ·exact z
 ·exact(List.pairwise_iff_getElem.1 h j i hj hi z ⟨h1.symm,h2.symm⟩).elim
theorem Cu {ts:List Th} {R:List Rw} {S:List Sd} {L:List Se} (h:aN R S []=some L) (hL:LsN R ts S L):Kd L:=by
 have q:=(fm S [] L List.Pairwise.nil (fun e he=>absurd he (by simp)) h).1
 unfold Kd
 rw[List.pairwise_iff_getElem] at q ⊢
 intro i j hi hj hij z
 have c:=q i j hi hj hij
 obtain⟨a,a1,-,a3⟩:=hL.ro i (by rw[←hL.len];exact hi)
 obtain⟨b,b1,-,b3⟩:=hL.ro j (by rw[←hL.len];exact hj)
 rw[aC hi] at a1
 rw[aC hj] at b1
 have e1:a=b:=by have:=z.1;rw[a1,b1] at this;exact this
 have e2:L[i].s.th=L[j].s.th:=by rw[a1,b1];show (S.getD i Sd.none).th=(S.getD j Sd.none).th;rw[←a3,←b3,e1]
 unfold dn at c
 rw[decide_eq_true e2.symm,decide_eq_true z.2.symm] at c
 cases c
theorem rr {R:List Rw} {F:List Fe} {L:List Se} (h:Kd L) {i:Nat} (hi:i<L.length):bI R F L i=true↔∀ o∈L,o≠L[i]→eX R F L[i] o=false:=by
 unfold bI
 rw[List.all_eq_true]
 constructor
 ·intro z o ho hne
  obtain⟨j,hj,rfl⟩:=List.getElem_of_mem ho
  have y:=z j (List.mem_range.2 hj)
  rw[aC hi,aC hj] at y
  simp only[Bool.or_eq_true,decide_eq_true_eq,Bool.not_eq_true'] at y
  rcases y with y | y
  ·subst y;exact absurd rfl hne
  ·exact y
 ·intro z j hj
  have hj':=List.mem_range.1 hj
  rw[aC hi,aC hj']
  simp only[Bool.or_eq_true,decide_eq_true_eq,Bool.not_eq_true']
  by_cases y:i=j
  ·exact Or.inl y
  ·exact Or.inr (z _ (List.getElem_mem hj') (fun e=>y (h.inj hi hj' (by rw[e]) (by rw[e]))))
theorem je {R:List Rw} {F:List Fe} {L L':List Se} (h:Kd L) (p:L'.Perm L) {i j:Nat} (hi:i<L'.length) (hj:j<L.length) (e:L'[i]=L[j]):bI R F L' i=bI R F L j:=by
 have a:=rr (R:=R) (F:=F) (h.perm p) hi
 have b:=rr (R:=R) (F:=F) h hj
 rw[Bool.eq_iff_iff,a,b,e]
 exact⟨fun z o ho=>z o (p.mem_iff.2 ho),fun z o ho=>z o (p.mem_iff.1 ho)⟩
theorem nf {R:List Rw} {F:List Fe} {L:List Se} (_:L≠[]):(bI R F L (bX R F L)=true∧∀ i,i<bX R F L→bI R F L i=false)∨(bX R F L=0∧∀ i,i<L.length→bI R F L i=false):=by
 unfold bX
 cases e:(List.range L.length).find? (bI R F L) with
 | none =>
  refine Or.inr ⟨rfl,fun i hi=>?_⟩
  have z:=List.find?_eq_none.1 e i (List.mem_range.2 hi)
  simpa using z
 | some k =>
  obtain⟨a,-,b⟩:=List.find?_range_eq_some.1 e
  exact Or.inl ⟨a,fun i hi=>by simpa using b i hi⟩
theorem AX {n:Int} {cd:Int→Hd×List Pt} {ts:List Th} {F G:List Fe} {R:List Rw} {S:List Sd} {L L':List Se} {x:Nat} (hT:Tab n cd ts F R) (hL:LsN R ts S L) (hk:Kd L) (hp:L'.Perm L) (hs:L'.Pairwise inS) (h:NxE R G ts S L x):Lib.idxBy fW S (L'.getD (bX R G L') Se.none).s=(x:Int):=by
 have hx:x<L.length:=by rw[hL.len];exact h.1
 have hk':=hk.perm hp
 have hup:L'.Pairwise jB:=by
  have q:=List.pairwise_iff_getElem.1 hs
  have r:=List.pairwise_iff_getElem.1 hk'
  rw[List.pairwise_iff_getElem]
  intro i j hi hj hij
  have a:=q i j hi hj hij
  have b:=r i j hi hj hij
  unfold inS at a
  unfold jB
  omega
 have h0:L'≠[]:=fun e=>by
  have:=hp.length_eq
  rw[e] at this
  simp at this
  omega
 have hm:=jU (R:=R) (F:=G) h0
 obtain⟨m,hme⟩:∃ m,m=bX R G L':=⟨_,rfl⟩
 rw[←hme] at hm ⊢
 obtain⟨z,hz,ez⟩:=List.getElem_of_mem (hp.mem_iff.1 (List.getElem_mem hm))
 obtain⟨y,hy,ey⟩:=List.getElem_of_mem (hp.mem_iff.2 (List.getElem_mem hx))
 have ahd:m<y→ahL ts (S.getD z Sd.none) (S.getD x Sd.none)=true:=fun q=>by
  refine hL.ah hT (by rw[←hL.len];exact hz) h.1 ?_
  rw[aC hz,aC hx,ez,←ey]
  exact List.pairwise_iff_getElem.1 hup m y hm hy q
 have hxz:m=y:=by
  rcases Nat.lt_trichotomy m y with q | q | q
  ·exfalso
   have a:=ahd q
   rcases h.2 with ⟨f1,f2⟩ | ⟨f1,f2⟩
   ·have b:bI R G L' m=true:=by
     rcases nf (R:=R) (F:=G) h0 with ⟨c,_⟩ | ⟨_,c⟩
     ·rw[hme];exact c
     ·have d:=c y hy
      rw[je hk hp hy hx ey,f1] at d
      cases d
    rw[je hk hp hm hz ez.symm] at b
    rw[f2 z (by rw[←hL.len];exact hz) b] at a
    cases a
   ·rw[f2 z (by rw[←hL.len];exact hz)] at a
    cases a
  ·exact q
  ·exfalso
   rcases nf (R:=R) (F:=G) h0 with ⟨_,c⟩ | ⟨c,_⟩
   ·have d:=c y (by rw[←hme];exact q)
    rw[je hk hp hy hx ey] at d
    rcases h.2 with ⟨f1,_⟩ | ⟨f1,_⟩
    ·rw[f1] at d;cases d
    ·rcases nf (R:=R) (F:=G) h0 with ⟨c2,_⟩ | ⟨c2,_⟩
     ·rw[←hme,je hk hp hm hz ez.symm,f1 z (by rw[←hL.len];exact hz)] at c2
      cases c2
     ·omega
   ·omega
 subst hxz
 rw[aC hm,ey]
 have q:=yd (L:=L) (p:=x) hx (fun i hi e=>by
  have hi':i<L.length:=by omega
  obtain⟨a,a1,a2,a3⟩:=hL.ro i (by rw[←hL.len];exact hi')
  obtain⟨b,b1,b2,b3⟩:=hL.ro x h.1
  have es:(S.getD i Sd.none)=(S.getD x Sd.none):=by rw[a1,b1] at e;exact e
  have er:a=b:=by
   refine Nat.le_antisymm (Nat.le_of_not_lt fun q=>?_) (Nat.le_of_not_lt fun q=>?_)
   ·have c:=hT.stAt q a2
    have d1:=(hT.thing a2).2.1
    have d2:=(hT.thing b2).2.1
    rw[a3] at d1
    rw[b3] at d2
    rw[es] at d1
    omega
   ·have c:=hT.stAt q b2
    have d1:=(hT.thing a2).2.1
    have d2:=(hT.thing b2).2.1
    rw[a3] at d1
    rw[b3] at d2
    rw[es] at d1
    omega
  have:=hk.inj hi' hx (by rw[←aC (d:=Se.none) hi',←aC (d:=Se.none) hx,a1,b1];exact er) (by rw[←aC (d:=Se.none) hi',←aC (d:=Se.none) hx,a1,b1];exact congrArg Sd.pl es)
  omega)
 rw[hL.is,aC hx] at q
 exact q
theorem Bt {w:World} {base g n c K:Nat} {S:List Sd} (h:dR w base (.slice (some ⟨g,0,none⟩) n c) S) (hn:n=S.length) (hK:K≤n) (hm:n≤64):Src w (.slice (some ⟨g,0,none⟩) K c) K 10 (sdR.cs (S.take K)):=by
 have hl:(S.take K).length=K:=by rw[List.length_take];omega
 have A:sdR.At w (.slice (some ⟨g,0,none⟩) K c) (S.take K):=by
  refine⟨some ⟨g,0,none⟩,c,by rw[hl],by rw[hl];unfold maxLen;omega,fun _=>⟨g,0,rfl,fun j x hj=>?_⟩⟩
  have hjK:j<K:=by have:=(List.getElem?_eq_some_iff.1 hj).1;omega
  rw[List.getElem?_take_of_lt hjK] at hj
  exact cN (n:=n) (c:=c) (aB.Own.at h) hj
 have q:=A.src
 rwa [hl] at q
theorem Bf {w:World} {base g n c K:Nat} {S:List Sd} (h:dR w base (.slice (some ⟨g,0,none⟩) n c) S) (hn:n=S.length) (hm:n≤64):Src w (.slice (some ⟨g,K*10,none⟩) (n - K) (c - K)) (n - K) 10 (sdR.cs (S.drop K)):=by
 have hl:(S.drop K).length=n - K:=by rw[List.length_drop,hn]
 have A:sdR.At w (.slice (some ⟨g,K*10,none⟩) (n - K) (c - K)) (S.drop K):=by
  refine⟨some ⟨g,K*10,none⟩,c - K,by rw[hl],by rw[hl];unfold maxLen;omega,fun _=>⟨g,K*10,rfl,fun j x hj=>?_⟩⟩
  rw[List.getElem?_drop] at hj
  have q:=cN (n:=n) (c:=c) (aB.Own.at h) hj
  rw[show K*10+j*sdR.k=0+(K+j)*10 from by show K*10+j*10=_;omega]
  exact q
 have q:=A.src
 rwa [hl] at q
theorem zu {w:World} {n K c:Nat} {S:List Sd} {ad:Option Addr} (hn:n=S.length) (hK:n=K):Src w (.slice ad (n - K) c) (n - K) 10 (sdR.cs (S.drop K)):=by
 rw[List.drop_eq_nil_of_le (by omega)]
 exact⟨ad,c,rfl,by rw[hK,Nat.sub_self];rfl,fun h=>absurd h (by omega)⟩
structure AlD (w wr:World) (vO vL vA:Value) (m:Int) (cd:Int→Hd×List Pt) (ts:List Th) (fs:List Fe) (R:List Rw) (k:Int) (X:List Fe) (L A:List Se):Prop where
 o:dt wr w.heap.size vO X
 l:dR wr w.heap.size vL (L.map Se.s)
 a:dR wr w.heap.size vA (A.map Se.s)
 dis:∀ b,vL.ownBlock=some b→vA.ownBlock≠some b
 onc:Onc m cd ts fs R k X L A
 gr:w.grownBy wr none
 fw:L.length+A.length≤64
theorem AlD.grow {w wr w':World} {vO vL vA:Value} {m:Int} {cd:Int→Hd×List Pt} {ts:List Th} {fs:List Fe} {R:List Rw} {k:Int} {X:List Fe} {L A:List Se} (h:AlD w wr vO vL vA m cd ts fs R k X L A) (g:wr.grownBy w' none):AlD w w' vO vL vA m cd ts fs R k X L A:=⟨ar h.o g,ar h.l g,ar h.a g,h.dis,h.onc,aa h.gr g,h.fw⟩
theorem B1 {L:List Se} {x:Nat}:(L.map Se.s).take x++(L.map Se.s).drop (x+1)=(L.eraseIdx x).map Se.s:=by
 rw[List.eraseIdx_eq_take_drop_succ,List.map_append,List.map_take,List.map_drop]
theorem B3 {m:Int} {cd:Int→Hd×List Pt} {ts:List Th} {fs:List Fe} {R:List Rw} {k:Int} {X:List Fe} {A:List Se} (h:Onc m cd ts fs R k X [] A):cJ fs R (ix R fs k).1=X∧(ix R fs k).2=A:=⟨h.end,by rw[h.all];rfl⟩
theorem AlD.next8 {w w6 w7 w8:World} {vO vl v7 v8 v6:Value} {m:Int} {cd:Int→Hd×List Pt} {ts:List Th} {fs:List Fe} {R:List Rw} {k:Int} {Y:List Fe} {M B:List Se} {S:List Sd} {x nn:Nat} {xs zs:List Value} (h6:dt w6 w.heap.size vO Y∧dR w6 w.heap.size vl S∧dR w6 w.heap.size v6 (B.map Se.s)∧w.grownBy w6 none) (g7:w6.grownBy w7 none) (o7:w7.ownsRow w6.heap.size 64 10 v7 x xs) (o8:w8.ownsRow w6.heap.size 64 10 v8 nn zs) (g8:w7.grownBy w8 v7.ownBlock) (hlen:nn=M.length) (hz:zs=sdR.cs (M.map Se.s)) (onc:Onc m cd ts fs R k Y M B) (fw:M.length+B.length≤64):AlD w w8 vO v8 v6 m cd ts fs R k Y M B:=by
 refine⟨bw (ar h6.1 g7) o7 (by decide) g8,?_,?_,?_,onc,az (aa h6.2.2.2 g7) g8 (fun y e=>Nat.le_trans h6.2.2.2.size (World.ownsRow.lt o7 y e).1),fw⟩
 ·have q:dR w8 w6.heap.size v8 (M.map Se.s):=by
   unfold dR aB.Own
   rw[List.length_map,←hlen,←hz]
   exact o8
  exact aT q h6.2.2.2.size
 ·refine World.ownsRow.kept (ar h6.2.2.1 g7) g8 ?_
  cases hv:v6.ownBlock with
  | none=>exact Or.inl rfl
  | some b =>
   refine Or.inr fun z=>?_
   have h1:=(World.ownsRow.lt h6.2.2.1 b hv).2
   have h2:=(World.ownsRow.lt o7 b z.symm).1
   omega
 ·intro b hb z
  have h1:=(World.ownsRow.lt h6.2.2.1 b z).2
  have h2:=(World.ownsRow.lt o8 b hb).1
  omega
theorem BO {L:List Se} {x n K:Nat} (hn:n=L.length) (hx:x<n) (hK:K=x+1):x+(n - K)=(L.eraseIdx x).length:=by
 rw[List.length_eraseIdx,if_pos (by omega)]
 omega
theorem fw8 {L A:List Se} {x:Nat} {e:Se} (h:L.length+A.length≤64) (hx:x<L.length):(L.eraseIdx x).length+(A++[e]).length≤64:=by
 rw[List.length_eraseIdx,if_pos hx,List.length_append,List.length_singleton]
 omega
theorem zv (ok:Nat→Prop) (r:Nat) (v:Value) (p:Pl) (gs:List Ent) (vt vf:Value) (ts:List Th) (F:List Fe) (k:Int) (w:World) (B:RD ok w r v p gs) (A:thR.At w vt ts) (AF:feR.At w vf F) (hr:TrI F):Calls Tryz.prog 16 #[.pointer (some ⟨r,0,none⟩),vt,vf,.int .i64 k] w (jc w (bG p ts.length) (gs.length:Int) (atC p gs) ts F k):=by
 obtain⟨iF,hiF,hF0,hF1,hF2⟩:=info_parts Tryz.linfoF
 obtain⟨i0,hi,hz0,hz1,hz2⟩:=info_parts Tryz.linfoD
 obtain⟨pt,ct,rfl⟩:=A.form
 obtain⟨pf,cf,rfl⟩:=AF.form
 have C1:=kj ok r v p gs _ _ ts F k w B A AF hr
 unfold ft at C1
 have HV:Hid (RD ok w r v p gs∧thR.At w (.slice pt ts.length ct) ts∧feR.At w (.slice pf F.length cf) F):=⟨B,A,AF⟩
 clear B A AF hr
 go_enter Tryz.func16,Tryz.ntmps16
 go_wp2_with fail
 refine C1.mono ?_
 rintro e1 w1 ⟨pL,mL,cL,rfl,g1,h1,h2⟩
 obtain⟨q,hq⟩:∃ q,q=bgE (bG p ts.length) (gs.length:Int) (atC p gs) ts F k:=⟨_,rfl⟩
 have Hq:Hid (q=bgE (bG p ts.length) (gs.length:Int) (atC p gs) ts F k):=hq
 have Hh2:Hid (∀ R,bG p ts.length=0→1≤k∧k≤5→bi (gs.length:Int) (atC p gs) ts F=some R→dR w1 w.heap.size (.slice pL mL cL) ((cU R (aq R F) k).map Se.s)):=h2
 have H1:Hid (w.grownBy w1 none∧RD ok w1 r v p gs∧thR.At w1 (.slice pt ts.length ct) ts∧feR.At w1 (.slice pf F.length cf) F):=⟨g1,HV.out.1.keep g1,HV.out.2.1.keep g1,HV.out.2.2.keep g1⟩
 rw[←hq]
 clear C1 g1 h1 h2 hq
 by_cases h0:q=0
 ·have e0:(q != 0)=false:=by rw[h0];rfl
  have H0:Hid (bgE (bG p ts.length) (gs.length:Int) (atC p gs) ts F k=0):=by show _=_;rw[←Hq.out,h0]
  obtain⟨r0,hk5,R,hR⟩:=jw H0.out
  have hlen:ts.length≤2048:=Nat.le_of_not_lt fun z=>by
   unfold bG at r0
   rw[if_pos z] at r0
   cases r0
  have HT:Hid (Tab (gs.length:Int) (atC p gs) ts F R∧ts.length≤2048∧F.length≤2048):=⟨Tab.of hR,hlen,by rw[←(Tab.of hR).len];exact hlen⟩
  have HD0:Hid (dR w1 w.heap.size (.slice pL mL cL) ((cU R (aq R F) k).map Se.s)):=Hh2.out R r0 hk5 hR
  have HSrc:Hid (Src w1 (.slice pf F.length cf) F.length 5 (feR.cs F)):=aB.At.src H1.out.2.2.2
  have HL5:Hid (0+F.length≤maxLen∧(0+F.length)*32≤140737488355328):=by have:=HT.out.2.2;exact⟨by unfold maxLen;omega,by omega⟩
  have Hc4:Hid (∀ c,(atC p gs c).2.length≤4):=HV.out.1.four
  clear h0 r0 hk5 hR hlen Hh2
  go_upto_region 6 with (at_builtin;refine aX (by rfl) (.tmp 28) (.tmp 29) 27 rfl w.heap.size 122 iF _ 5 32 Tryz.underlying27 hiF hF0 hF1 hF2 rfl (by decide) (.slice none 0 0) 0 [] rfl ⟨rfl,Or.inl ⟨rfl,rfl⟩⟩ _ F.length (feR.cs F) rfl HSrc.out (feR.ones F) HL5.out.1 HL5.out.2 H1.out.1.size ?_;intro v9 w9 o9 g9 _;have HO9:Hid (dt w9 w.heap.size v9 F):=(by have h9:=o9;rw[Nat.zero_add,List.nil_append] at h9;exact h9);have HG9:Hid (w1.grownBy w9 none):=g9;clear o9 g9)
  have HA0:Hid (AlD w w9 v9 (.slice pL mL cL) (.slice none 0 0) (gs.length:Int) (atC p gs) ts F R k F (cU R (aq R F) k) []):=⟨HO9.out,ar HD0.out HG9.out,aB.Own.nil _ _ _ _,fun b _ z=>(by cases z),Onc.start HT.out.1,aa H1.out.1 HG9.out,by have:=HT.out.1.effs Hc4.out (aq R F) k;simpa using this⟩
  clear HSrc HL5 HO9 HG9 HD0
  go_wp2_with fail
  go_loopw [11,13,14,15,16] (fun vL vO vA _ _ wr=>∃ (X:List Fe) (L A:List Se),Hid (AlD w wr vO vL vA (gs.length:Int) (atC p gs) ts F R k X L A)) (fun vL _ _ _ _ _=>sH vL)
  case atStart=>exact⟨F,cU R (aq R F) k,[],HA0.out⟩
  case round =>
   clear HA0
   obtain⟨X,L,A,HS⟩:=hrel
   obtain⟨U,hU⟩:∃ U,U=wr:=⟨_,rfl⟩
   subst hU
   obtain⟨pL,cL,rfl⟩:=aB.Own.form HS.out.l
   obtain⟨pA,cA,rfl⟩:=aB.Own.form HS.out.a
   obtain⟨pO,cO,rfl⟩:=aB.Own.form HS.out.o
   rw[List.length_map] at HS ⊢
   rw[List.length_map] at HS ⊢
   by_cases hlt:0<L.length
   ·skip
    have hS0:0<(L.map Se.s).length:=by rw[List.length_map];exact hlt
    have HLs:Hid (LsN R ts (L.map Se.s) L):=LsN.of HS.out.onc.tab Hc4.out HS.out.onc.list
    obtain⟨gL,cL',eL,hgb,hgl,hnc,-,-⟩:=cc HS.out.l hS0
    injection eL with eL1 eL2 eL3
    clear eL2
    subst eL1
    subst eL3
    obtain⟨n,hn⟩:∃ n,n=L.length:=⟨_,rfl⟩
    have Hn:Hid (n=L.length∧0<n∧n≤cL∧n≤64):=⟨hn,by omega,by rw[hn];rw[List.length_map] at hnc;exact hnc,by have:=HS.out.fw;omega⟩
    have CN:=nV ok r v p gs _ _ _ ts X R (L.map Se.s) L U (HV.out.1.keep HS.out.gr) (HV.out.2.1.keep HS.out.gr) (aB.Own.at HS.out.o) (aB.Own.at HS.out.l) HS.out.onc.tab HT.out.2.1 HLs.out hS0
    rw[←hn] at CN HS ⊢
    have hlt':(0:Int)<(n:Int):=by omega
    clear hlt hS0 hn hgb hgl hnc
    go_wp2_with fail
    refine CN.mono ?_
    rintro e4 w4 ⟨x,rfl,hx,g4⟩
    have HX:Hid (x=bX R (aq R X) L∧x<n):=⟨za HLs.out HS.out.onc.tab HS.out.onc.up hx,by rw[Hn.out.1,←HLs.out.len.symm];exact hx.1⟩
    have H4:Hid (AlD w w4 (.slice pO X.length cO) (.slice (some ⟨gL,0,none⟩) n cL) (.slice pA A.length cA) (gs.length:Int) (atC p gs) ts F R k X L A):=HS.out.grow g4
    clear CN hx g4 HS
    obtain⟨S,hS⟩:∃ S,S=L.map Se.s:=⟨_,rfl⟩
    have HSL:Hid (S=L.map Se.s∧S.length=n):=⟨hS,by rw[hS,List.length_map,Hn.out.1]⟩
    obtain⟨ro,b1,b2,b3⟩:=HLs.out.ro x (by rw[List.length_map,←Hn.out.1];exact HX.out.2)
    obtain⟨s,hs⟩:∃ s,s=(L.map Se.s).getD x Sd.none:=⟨_,rfl⟩
    rw[←hs] at b1 b3
    have Hsx:Hid (S[x]?=some s∧L.getD x Se.none=⟨s,ro⟩):=⟨by rw[hS];exact atD (by rw[List.length_map,←Hn.out.1];exact HX.out.2) hs.symm,b1⟩
    have RR:=cN (aB.Own.at H4.out.l) (show (L.map Se.s)[x]?=some s by rw[←hS];exact Hsx.out.1)
    rw[Nat.zero_add] at RR
    obtain⟨c0,c1,c2,c3,c4,c5,c6,c7,c8,c9⟩:=bq RR
    have C5:=jv ok r v p gs _ _ ts X R s ro w4 (HV.out.1.keep H4.out.gr) (HV.out.2.1.keep H4.out.gr) (aB.Own.at H4.out.o) H4.out.onc.tab b2 b3 HT.out.2.1
    unfold sdv at C5
    have xn:(x:Int)<(n:Int):=Int.ofNat_lt.2 HX.out.2
    clear hS hs b1 b2 b3 RR
    go_wp2_with fail
    refine C5.mono ?_
    rintro e5 w5 ⟨v5,rfl,o5,g5⟩
    obtain⟨p5,c5',ev5⟩:=aB.Own.form o5
    obtain⟨Y,hY⟩:∃ Y,Y=cJ X R (aP R (aq R X) ⟨s,ro⟩):=⟨_,rfl⟩
    have HY:Hid (Y=cJ X R (aP R (aq R X) ⟨s,ro⟩)):=hY
    rw[←hY] at o5 ev5
    subst ev5
    have H5:Hid (dt w5 w.heap.size (.slice p5 Y.length c5') Y∧dR w5 w.heap.size (.slice (some ⟨gL,0,none⟩) n cL) S∧dR w5 w.heap.size (.slice pA A.length cA) (A.map Se.s)∧w.grownBy w5 none):=⟨aT o5 H4.out.gr.size,by rw[HSL.out.1];exact ar H4.out.l g5,ar H4.out.a g5,aa H4.out.gr g5⟩
    have Hdis:Hid (∀ b,(Value.slice (some ⟨gL,0,none⟩) n cL).ownBlock=some b→(Value.slice pA A.length cA).ownBlock≠some b):=H4.out.dis
    have Honc:Hid (Onc (gs.length:Int) (atC p gs) ts F R k Y (L.eraseIdx x) (A++[⟨s,ro⟩])):=by
     have q:=H4.out.onc.step (by rw[←Hn.out.1];exact Hn.out.2.1)
     rw[←HX.out.1,Hsx.out.2] at q
     show Onc _ _ _ _ _ _ _ _ _
     rw[hY]
     exact q
    have Hfw:Hid (L.length+A.length≤64):=H4.out.fw
    clear C5 o5 g5 hY H4 c0 c1 c2 c3 c4 c5 c6 c7 c8 c9
    have RR:=cN (aB.Own.at H5.out.2.1) Hsx.out.1
    rw[Nat.zero_add] at RR
    obtain⟨c0,c1,c2,c3,c4,c5,c6,c7,c8,c9⟩:=bq RR
    clear RR
    obtain⟨na,hna⟩:∃ na,na=A.length:=⟨_,rfl⟩
    have Hna:Hid (na=A.length∧na≤64):=⟨hna,by have:=Hfw.out;omega⟩
    have HOa:Hid (w5.ownsRow w.heap.size 64 10 (.slice pA na cA) na (sdR.cs (A.map Se.s))):=by
     have h9:=H5.out.2.2.1
     unfold dR aB.Own at h9
     rw[List.length_map,←hna] at h9
     exact h9
    rw[←hna] at Hdis ⊢
    clear hna
    have HLa:Hid (na+1≤maxLen∧(na+1)*56≤140737488355328):=Ae rfl (Nat.le_trans Hna.out.2 (by decide))
    have HLb:Hid (w.heap.size≤(w5.alloc (.cells (sdc s).toArray 64)).heap.size):=Nat.le_trans H5.out.2.2.2.size (World.grownBy_alloc w5 _ none).size
    go_upto_region 11 with (at_builtin;refine aX (by rfl) (.tmp 47) (.tmp 52) 30 rfl w.heap.size 64 i0 _ 10 56 Tryz.underlying30 hi hz0 hz1 hz2 rfl (by decide) _ na (sdR.cs (A.map Se.s)) rfl (World.ownsRow.alloc HOa.out _) _ 1 (sdc s) rfl (yE w5 s) (iR _) HLa.out.1 HLa.out.2 HLb.out ?_;intro v6 w6 o6 g6 l6;have HO6:Hid _:=o6;have HG6:Hid _:=g6;have HL6:Hid _:=l6;clear o6 g6 l6)
    have H6:Hid (dt w6 w.heap.size (.slice p5 Y.length c5') Y∧dR w6 w.heap.size (.slice (some ⟨gL,0,none⟩) n cL) S∧dR w6 w.heap.size v6 ((A++[(⟨s,ro⟩:Se)]).map Se.s)∧w.grownBy w6 none):=by
     have ga:=World.grownBy_alloc w5 (.cells (sdc s).toArray 64) none
     refine⟨bw (ar H5.out.1 ga) (World.ownsRow.alloc HOa.out _) (by decide) HG6.out,World.ownsRow.kept (ar H5.out.2.1 ga) HG6.out (Or.inr (fun z=>Hdis.out gL rfl z.symm)),?_,az (aa H5.out.2.2.2 ga) HG6.out (fun y e=>(World.ownsRow.lt HOa.out y e).1)⟩
     rw[List.map_append]
     exact aB.more HO6.out (by rw[List.length_map,←Hna.out.1])
    obtain⟨K,hK⟩:∃ K,K=x+1:=⟨_,rfl⟩
    have HK:Hid (K=x+1):=hK
    have HKn:Hid (K≤n∧x≤n∧n≤64∧n≤cL):=⟨by have:=HX.out.2;omega,Nat.le_of_lt HX.out.2,Hn.out.2.2.2,Hn.out.2.2.1⟩
    have k9:(x:Int)+1=(K:Int):=by omega
    have k8:wrap64 ((K:Nat):Int)=(K:Int):=by have:=HKn.out;unfold wrap64;omega
    have x1:(x:Int)≤(cL:Int):=by have:=HKn.out;omega
    have x2:x≤cL:=by have:=HKn.out;omega
    have K1:(K:Int)≤(n:Int):=by have:=HKn.out;omega
    have K2:K≤n:=HKn.out.1
    have HLc:Hid (0+x≤maxLen∧(0+x)*56≤140737488355328):=by have:=HKn.out;exact⟨by unfold maxLen;omega,by omega⟩
    clear c0 c1 c2 c3 c4 c5 c6 c7 c8 c9 HOa HLa HLb HO6 HG6 HL6 hK xn
    go_upto_region 13 with (at_builtin;refine aX (by rfl) (.tmp 54) (.tmp 57) 30 rfl w6.heap.size 64 i0 _ 10 56 Tryz.underlying30 hi hz0 hz1 hz2 rfl (by decide) (.slice none 0 0) 0 [] rfl ⟨rfl,Or.inl ⟨rfl,rfl⟩⟩ _ x (sdR.cs (S.take x)) rfl (Bt H6.out.2.1 HSL.out.2.symm HKn.out.2.1 HKn.out.2.2.1) (sdR.ones _) HLc.out.1 HLc.out.2 (Nat.le_refl _) ?_;intro v7 w7 o7 g7 _;have HO7:Hid (w7.ownsRow w6.heap.size 64 10 v7 x (sdR.cs (S.take x))):=(by have h9:=o7;rw[Nat.zero_add,List.nil_append] at h9;exact h9);have HG7:Hid (w6.grownBy w7 none):=g7;clear o7 g7)
    obtain⟨p7,c7,e7,-⟩:=bz HO7.out
    subst e7
    have HMs:Hid (((L.eraseIdx x).map Se.s).length<n):=by show _<_;rw[List.length_map,←BO Hn.out.1 HX.out.2 HK.out];have:=HK.out;have:=HX.out.2;omega
    have HZs:Hid (sdR.cs (S.take x)++sdR.cs (S.drop K)=sdR.cs ((L.eraseIdx x).map Se.s)):=by show _=_;rw[←aB.app,HK.out,HSL.out.1,B1]
    have HF8:Hid ((L.eraseIdx x).length+(A++[(⟨s,ro⟩:Se)]).length≤64):=fw8 Hfw.out (by rw[←Hn.out.1];exact HX.out.2)
    by_cases hcK:cL=K
    ·have HLd:Hid (x+(n - K)≤maxLen∧(x+(n - K))*56≤140737488355328):=by have:=HKn.out;exact⟨by unfold maxLen;omega,by omega⟩
     have HnK:Hid (n=K):=by have:=HKn.out;show _=_;omega
     have cK:(cL:Int)=(K:Int):=by rw[hcK]
     go_wp2_with (at_builtin;refine aX (by rfl) (.tmp 59) (.tmp 63) 30 rfl w6.heap.size 64 i0 _ 10 56 Tryz.underlying30 hi hz0 hz1 hz2 rfl (by decide) _ x (sdR.cs (S.take x)) rfl HO7.out _ (n - K) (sdR.cs (S.drop K)) rfl (zu HSL.out.2.symm HnK.out) (sdR.ones _) HLd.out.1 HLd.out.2 HG7.out.size ?_;intro v8 w8 o8 g8 _;have HO8:Hid _:=o8;have HG8:Hid _:=g8;clear o8 g8)
     have HA8:Hid (AlD w w8 (.slice p5 Y.length c5') v8 v6 (gs.length:Int) (atC p gs) ts F R k Y (L.eraseIdx x) (A++[⟨s,ro⟩])):=AlD.next8 H6.out HG7.out HO7.out HO8.out HG8.out (BO Hn.out.1 HX.out.2 HK.out) HZs.out Honc.out HF8.out
     obtain⟨p8,c8,e8⟩:=aB.Own.form HA8.out.l
     subst e8
     go_roundw
     case rel=>exact⟨Y,L.eraseIdx x,A++[⟨s,ro⟩],HA8⟩
     case measure=>exact HMs.out
    ·have HLd:Hid (x+(n - K)≤maxLen∧(x+(n - K))*56≤140737488355328):=by have:=HKn.out;exact⟨by unfold maxLen;omega,by omega⟩
     have cK:K<cL:=by have:=HKn.out;omega
     go_wp2_with (at_builtin;refine aX (by rfl) (.tmp 59) (.tmp 63) 30 rfl w6.heap.size 64 i0 _ 10 56 Tryz.underlying30 hi hz0 hz1 hz2 rfl (by decide) _ x (sdR.cs (S.take x)) rfl HO7.out _ (n - K) (sdR.cs (S.drop K)) rfl (Src.keep (Bf H6.out.2.1 HSL.out.2.symm HKn.out.2.2.1) HG7.out) (sdR.ones _) HLd.out.1 HLd.out.2 HG7.out.size ?_;intro v8 w8 o8 g8 _;have HO8:Hid _:=o8;have HG8:Hid _:=g8;clear o8 g8)
     have HA8:Hid (AlD w w8 (.slice p5 Y.length c5') v8 v6 (gs.length:Int) (atC p gs) ts F R k Y (L.eraseIdx x) (A++[⟨s,ro⟩])):=AlD.next8 H6.out HG7.out HO7.out HO8.out HG8.out (BO Hn.out.1 HX.out.2 HK.out) HZs.out Honc.out HF8.out
     obtain⟨p8,c8,e8⟩:=aB.Own.form HA8.out.l
     subst e8
     go_roundw
     case rel=>exact⟨Y,L.eraseIdx x,A++[⟨s,ro⟩],HA8⟩
     case measure=>exact HMs.out
   ·obtain rfl:L=[]:=List.length_eq_zero_iff.1 (by omega)
    obtain⟨x1,x2⟩:=B3 HS.out.onc
    have HN:Hid (cJ F R (ix R F k).1=X∧(ix R F k).2=A):=⟨x1,x2⟩
    have hlt':¬((0:Int)<(([]:List Se).length:Int)):=by simp
    clear x1 x2 hlt
    go_wp2_with fail
    go_ret3
    exact⟨pO,_,cO,pA,_,cA,by rw[H0.out] <;> rfl,HS.out.gr,fun z=>absurd H0.out z,fun R' _ _ hR'=>by
     rw[HT.out.1.tab] at hR'
     cases hR'
     rw[HN.out.1,HN.out.2]
     exact⟨HS.out.o,HS.out.a⟩⟩
 ·have e0:(q != 0)=true:=by simpa using h0
  have H0:Hid (bgE (bG p ts.length) (gs.length:Int) (atC p gs) ts F k=q∧q≠0):=⟨Hq.out.symm,h0⟩
  clear h0
  go_wp2_with fail
  go_ret3
  exact⟨none,0,0,none,0,0,by rw[H0.out.1] <;> rfl,H1.out.1,fun _=>⟨rfl,rfl,rfl,rfl,rfl,rfl⟩,fun R' r0 hk hR'=>by
   have h9:=H0.out.1
   rw[r0,tQ hR' hk] at h9
   exact absurd h9.symm H0.out.2⟩
end Go.Proofs.YtjmepebbcnhalaaGreat
namespace Go.Proofs.YtjmepebbcnhalaaGreat
set_option maxHeartbeats 2000000
open Go.RowKit
theorem Tryz.info3iE:(Tryz.prog.info? 3).map (fun i=>(i.zero,i.size,i.bytes))=some (some (.int .i64 0),1,8):=by kernel_rfl

def oq (t u:Th):Bool:=decide (t.card=u.card∧t.owner=u.owner∧t.place=u.place∧t.stamp=u.stamp∧t.hurt=u.hurt∧(t.m0=u.m0∧t.m1=u.m1∧t.m2=u.m2∧t.m3=u.m3)∧t.done=u.done∧t.fresh=u.fresh)
theorem wH {t u:Th}:oq t u=true↔t=u:=by
 unfold oq
 rw[decide_eq_true_iff]
 constructor
 ·rintro⟨h1,h2,h3,h4,h5,⟨h6,h7,h8,h9⟩,h10,h11⟩
  cases t
  cases u
  simp only at h1 h2 h3 h4 h5 h6 h7 h8 h9 h10 h11
  subst h1 h2 h3 h4 h5 h6 h7 h8 h9 h10 h11
  rfl
 ·rintro rfl
  simp
theorem BH (op:BinOp) (x y:Operand) (xs ys:Array Value) (w:World):(eqGuard op 120 x y (.agg xs) (.agg ys)).run Tryz.prog w=.ok () w:=run_eqGuard_agg w op 120 x y xs ys (by kernel_rfl)
theorem qc (a0 a1 a2 a3 b0 b1 b2 b3:Int) (w:World):(Op.equalIn 9999 118 (.agg #[.int .i64 a0,.int .i64 a1,.int .i64 a2,.int .i64 a3]) (.agg #[.int .i64 b0,.int .i64 b1,.int .i64 b2,.int .i64 b3])).run Tryz.prog w=.ok (decide (a0=b0∧a1=b1∧a2=b2∧a3=b3)) w:=by
 obtain⟨i0,hi,_⟩:=info_parts Tryz.info3iE
 have u3:=Tryz.underlying3
 have i3:=Tryz.isAgg3
 have z3:=Tryz.sizeOf3
 have hc:Tryz.prog.cellsOf 3=1:=by kernel_rfl
 rw[show (9999:Nat)=9998+1 from rfl,run_equalIn_array w 9998 _ _ Tryz.underlying118 hi,hc,show List.range 4=[0,1,2,3] from rfl]
 simp only[Op.eqItems]
 go_simp
 by_cases h0:a0=b0
 case neg=>simp[h0]
 simp only[h0]
 by_cases h1:a1=b1
 case neg=>simp[h1]
 simp only[h1]
 by_cases h2:a2=b2
 case neg=>simp[h2]
 simp only[h2]
 by_cases h3:a3=b3
 case neg=>simp[h3]
 simp[h3]
theorem sO (ac ao ap ax ah am0 am1 am2 am3 ad bc bo bp bx bh bm0 bm1 bm2 bm3 bd:Int) (af bf:Bool) (w:World):(Op.equalIn 10000 120 (.agg #[.int .i64 ac,.int .i64 ao,.int .u8 ap,.int .i64 ax,.int .i64 ah,.int .i64 am0,.int .i64 am1,.int .i64 am2,.int .i64 am3,.int .i64 ad,.bool af]) (.agg #[.int .i64 bc,.int .i64 bo,.int .u8 bp,.int .i64 bx,.int .i64 bh,.int .i64 bm0,.int .i64 bm1,.int .i64 bm2,.int .i64 bm3,.int .i64 bd,.bool bf])).run Tryz.prog w=.ok (oq (⟨ac,ao,ap,ax,ah,am0,am1,am2,am3,ad,af⟩:Th) (⟨bc,bo,bp,bx,bh,bm0,bm1,bm2,bm3,bd,bf⟩:Th)) w:=by
 unfold oq
 have hS:Tryz.prog.underlying 120=some (.struct (Tryz.prog.fieldsOf 120)):=by kernel_rfl
 have hp:Tryz.prog.stoodInHeld 120=false:=by kernel_rfl
 have u3:=Tryz.underlying3
 have i3:=Tryz.isAgg3
 have z3:=Tryz.sizeOf3
 have u4:=Tryz.underlying4
 have i4:=Tryz.isAgg4
 have z4:=Tryz.sizeOf4
 have uP:=Tryz.underlying117
 have iP:=Tryz.isAgg117
 have zP:=Tryz.sizeOf117
 have iA:=Tryz.isAgg118
 have zA:=Tryz.sizeOf118
 have h4:=qc am0 am1 am2 am3 bm0 bm1 bm2 bm3
 rw[show (10000:Nat)=9999+1 from rfl,run_equalIn_agg w 9999 120 _ _ hS hp]
 simp only[Program.fieldsOf,Tryz.underlying120]
 go_simp
 by_cases hc:ac=bc
 case neg=>simp[hc]
 simp only[hc]
 by_cases ho:ao=bo
 case neg=>simp[ho]
 simp only[ho]
 by_cases hp:ap=bp
 case neg=>simp[hp]
 simp only[hp]
 by_cases hx:ax=bx
 case neg=>simp[hx]
 simp only[hx]
 by_cases hh:ah=bh
 case neg=>simp[hh]
 simp only[hh]
 by_cases hm0:am0=bm0
 case neg=>simp[hm0]
 simp only[hm0]
 by_cases hm1:am1=bm1
 case neg=>simp[hm1]
 simp only[hm1]
 by_cases hm2:am2=bm2
 case neg=>simp[hm2]
 simp only[hm2]
 by_cases hm3:am3=bm3
 case neg=>simp[hm3]
 simp only[hm3]
 by_cases hd:ad=bd
 case neg=>simp[hd]
 simp only[hd]
 by_cases hf:af=bf
 case neg=>simp[hf]
 simp[hf]
theorem BW (ac ao ap ax ah am0 am1 am2 am3 ad bc bo bp bx bh bm0 bm1 bm2 bm3 bd:Int) (af bf:Bool) (w:World):(binOp .neq 120 (.agg #[.int .i64 ac,.int .i64 ao,.int .u8 ap,.int .i64 ax,.int .i64 ah,.int .i64 am0,.int .i64 am1,.int .i64 am2,.int .i64 am3,.int .i64 ad,.bool af]) (.agg #[.int .i64 bc,.int .i64 bo,.int .u8 bp,.int .i64 bx,.int .i64 bh,.int .i64 bm0,.int .i64 bm1,.int .i64 bm2,.int .i64 bm3,.int .i64 bd,.bool bf])).run Tryz.prog w=.ok (.bool (!oq (⟨ac,ao,ap,ax,ah,am0,am1,am2,am3,ad,af⟩:Th) (⟨bc,bo,bp,bx,bh,bm0,bm1,bm2,bm3,bd,bf⟩:Th))) w:=by
 rw[run_neq_struct,sO];rfl
end Go.Proofs.YtjmepebbcnhalaaGreat
