import Derived.Test.YtjmepebbcnhalaaGreatZ22
namespace Go.Proofs.YtjmepebbcnhalaaGreat
open Go.RowKit Go.Shelf
variable {cd:Int→Hd×List Pt} {t:Th} {f:Fe} {i j:Nat} {ts:List Th} {fs F:List Fe} {n ho:Int} {R:List Rw} {e:Se} {L acc:List Se} {w w':World}
def fy (cd:Int→Hd×List Pt):List (Th×Fe)→Nat→List Rw
 | [],_=>[]
 | (t,_) :: r,i=>if t.place=4 then ⟨(i:Int)+1,t.stamp,(cd t.card).1,(cd t.card).2⟩ :: fy cd r (i+1) else fy cd r (i+1)
theorem ia {r:List (Th×Fe)} (h:¬t.place=4):fy cd ((t,f) :: r) i=fy cd r (i+1):=by
 rw[fy,if_neg h]
theorem eZ {r:List (Th×Fe)} {i:Nat} (h:t.place=4):fy cd ((t,f) :: r) i=⟨(i:Int)+1,t.stamp,(cd t.card).1,(cd t.card).2⟩ :: fy cd r (i+1):=by
 rw[fy,if_pos h]
theorem lv {n:Int} {cd:Int→Hd×List Pt}:∀ (l:List (Th×Fe)) (i:Nat) (acc A:List Rw),dW n cd l i acc=some A→A=acc++fy cd l i∧∀ x∈l,x.1.place=4→bq x.1 x.2=true
 | [],i,acc,A,h=>by
  simp only[dW,Option.some.injEq] at h;subst h;exact⟨(Qb4 _).symm,fun x hx=>by cases hx⟩
 | (t,f) :: r,i,acc,A,h=>by
  unfold dW at h;split at h
  ·cases h
  ·split at h
   ·rename_i hp;obtain⟨e,q⟩:=lv r (i+1) acc A h;refine⟨?_,fun x hx h4=>?_⟩
    ·rw[e,ia hp]
    ·rcases Qbo.1 hx with rfl | hx
     ·exact absurd h4 hp
     ·exact q x hx h4
   ·rename_i hp;have hp':t.place=4:=Decidable.of_not_not hp;split at h
    ·cases h
    ·rename_i hm;split at h
     ·cases h
     ·obtain⟨e,q⟩:=lv r (i+1) _ A h;refine⟨?_,fun x hx h4=>?_⟩
      ·rw[e,eZ hp',Qb8,Qcx]
      ·rcases Qbo.1 hx with rfl | hx
       ·have h2:¬bq t f=false:=fun q=>hm (Or.inr q);cases h3:bq t f with
        | true=>rfl
        | false=>exact absurd h3 h2
       ·exact q x hx h4
theorem lE {n:Int} {cd:Int→Hd×List Pt}:∀ (l l':List (Th×Fe)) (i:Nat) (acc:List Rw),l.length=l'.length→(∀ (j:Nat) t f t' f',l[j]?=some (t,f)→l'[j]?=some (t',f')→t=t'∧(t.place=4→bq t f=bq t f'))→dW n cd l i acc=dW n cd l' i acc
 | [],[],_,_,_,_=>rfl
 | [],_ :: _,_,_,h,_=>by cases h
 | _ :: _,[],_,_,h,_=>by cases h
 | (t,f) :: r,(t',f') :: r',i,acc,h,q=>by
  obtain⟨rfl,q0⟩:=q 0 t f t' f' rfl rfl;have q1:∀ (j:Nat) a b c d,r[j]?=some (a,b)→r'[j]?=some (c,d)→a=c∧(a.place=4→bq a b=bq a d):=fun j a b c d h1 h2=>q (j+1) a b c d h1 h2;have hl:r.length=r'.length:=by simpa using h
  unfold dW;rw[lE r r' (i+1) acc hl q1,lE r r' (i+1) _ hl q1];by_cases hp:t.place=4
  ·rw[q0 hp]
  ·simp only[if_pos hp]
theorem xL {cd:Int→Hd×List Pt}:∀ (l:List (Th×Fe)) (i:Nat),(∀ r∈fy cd l i,(i:Int)<r.nu∧r.nu≤(i:Int)+l.length)∧(fy cd l i).Pairwise fun a b=>a.nu<b.nu
 | [],i=>⟨fun r h=>(by cases h),List.Pairwise.nil⟩
 | (t,f) :: l,i=>by
  obtain⟨h1,h2⟩:=xL (cd:=cd) l (i+1);simp only[List.length_cons];by_cases hp:t.place=4
  ·rw[eZ hp];refine⟨fun r hr=>?_,List.Pairwise.cons (fun r hr=>?_) h2⟩
   ·rcases Qbo.1 hr with rfl | hr
    ·exact⟨by show (i:Int)<(i:Int)+1;omega,by show (i:Int)+1≤_;omega⟩
    ·have:=h1 r hr;omega
   ·have:=h1 r hr;show (i:Int)+1<r.nu;omega
  ·rw[ia hp];exact⟨fun r hr=>by have:=h1 r hr;omega,h2⟩
theorem yU {cd:Int→Hd×List Pt}:∀ (l:List (Th×Fe)) (i j:Nat) (t:Th) (f:Fe),l[j]?=some (t,f)→t.place=4→∃ r∈fy cd l i,r.nu=(i:Int)+j+1
 | [],i,j,t,f,h,_=>by simp at h
 | (t',f') :: l,i,0,t,f,h,h4=>by
  simp at h;obtain⟨rfl,rfl⟩:=h;rw[eZ h4];exact⟨_,Qaw,by show (i:Int)+1=_;omega⟩
 | (t',f') :: l,i,j+1,t,f,h,h4=>by
  obtain⟨r,hr,e⟩:=yU (cd:=cd) l (i+1) j t f (by simpa using h) h4;refine⟨r,?_,by rw[e];omega⟩;by_cases hp:t'.place=4
  ·rw[eZ hp];exact Qar _ hr
  ·rw[ia hp];exact hr
theorem je {cd:Int→Hd×List Pt}:∀ (l:List (Th×Fe)) (i:Nat) (r:Rw),r∈fy cd l i→∃ (j:Nat) (t:Th) (f:Fe),l[j]?=some (t,f)∧t.place=4∧r=⟨(i:Int)+j+1,t.stamp,(cd t.card).1,(cd t.card).2⟩
 | [],i,r,h=>by cases h
 | (t,f) :: l,i,r,h=>by
  by_cases hp:t.place=4
  ·rw[eZ hp] at h
   rcases Qbo.1 h with rfl | h
   ·exact⟨0,t,f,rfl,hp,by simp⟩
   ·obtain⟨j,a,b,h1,h2,h3⟩:=je l (i+1) r h;exact⟨j+1,a,b,by simpa using h1,h2,by rw[h3];simp only[Rw.mk.injEq,and_true];omega⟩
  ·rw[ia hp] at h;obtain⟨j,a,b,h1,h2,h3⟩:=je l (i+1) r h;exact⟨j+1,a,b,by simpa using h1,h2,by rw[h3];simp only[Rw.mk.injEq,and_true];omega⟩
structure Tab (n:Int) (cd:Int→Hd×List Pt) (ts:List Th) (fs:List Fe) (R:List Rw):Prop where
 tab:bI n cd ts fs=some R
 len:ts.length=fs.length
 perm:R.Perm (fy cd (ts.zip fs) 0)
 nod:(R.map Rw.nu).Nodup
 nu:∀ r∈R,1≤r.nu∧r.nu≤(fs.length:Int)
 may:∀ (j:Nat) t f,ts[j]?=some t→fs[j]?=some f→t.place=4→bq t f=true
 few:R.length≤16
theorem nR {n:Int} {cd:Int→Hd×List Pt}:∀ (l:List (Th×Fe)) (i:Nat) (acc A:List Rw),acc.length≤16→dW n cd l i acc=some A→A.length≤16
 | [],i,acc,A,h0,h=>by
  simp only[dW,Option.some.injEq] at h;subst h;exact h0
 | (t,f) :: r,i,acc,A,h0,h=>by
  unfold dW at h;split at h
  ·cases h
  ·split at h
   ·exact nR r (i+1) acc A h0 h
   ·split at h
    ·cases h
    ·rename_i hm;split at h
     ·cases h
     ·exact nR r (i+1) _ A (by rw[Qa,Qax];have:¬acc.length=16:=fun q=>hm (Or.inl q);omega) h
theorem fg:(ts.zip fs)[j]?=some (t,f)↔ts[j]?=some t∧fs[j]?=some f:=by
 rw[List.getElem?_zip_eq_some]
theorem Tab.of (h:bI n cd ts fs=some R):Tab n cd ts fs R:=by
 have h':=h;unfold bI at h;split at h
 ·rename_i hl;split at h
  ·rename_i acc ha;split at h
   ·cases h;obtain⟨e,q⟩:=lv _ _ _ _ ha;rw[Qaz] at e;have hp:(sortR acc).Perm (fy cd (ts.zip fs) 0):=(by rw[←e];exact Qd1 _ _);obtain⟨n1,n2⟩:=xL (cd:=cd) (ts.zip fs) 0;refine⟨h',hl,hp,?_,fun r hr=>?_,fun j t f a b c=>?_,?_⟩
    ·rw[(hp.map Rw.nu).nodup_iff];exact List.Pairwise.map _ (fun a b q=>by omega) n2
    ·have:=n1 r (hp.mem_iff.1 hr);rw[Qcl] at this;omega
    ·exact q (t,f) (Qm (fg.2 ⟨a,b⟩)) c
    ·rw[hp.length_eq,←e];exact nR _ _ _ _ (Q0 _) ha
   ·cases h
  ·cases h
 ·cases h
theorem Tab.turn {fs':List Fe} (h:Tab n cd ts fs R) (hl:fs'.length=fs.length) (hm:∀ (j:Nat) t f,ts[j]?=some t→fs'[j]?=some f→t.place=4→bq t f=true):Tab n cd ts fs' R:=by
 refine Tab.of ?_
 have e:dW n cd (ts.zip fs') 0 []=dW n cd (ts.zip fs) 0 []:=by
  refine lE _ _ _ _ (by rw[Qcl,Qcl,hl]) fun j t f t' f' a b=>?_;obtain⟨a1,a2⟩:=fg.1 a;obtain⟨b1,b2⟩:=fg.1 b;rw[a1] at b1;cases b1;exact⟨rfl,fun h4=>by rw[hm j t f a1 a2 h4,h.may j t f' a1 b2 h4]⟩
 have:=h.tab;unfold bI at this ⊢;rw[hl,e];exact this
theorem Tab.has (h:Tab n cd ts fs R) {j:Nat} {t:Th} (ht:ts[j]?=some t) (h4:t.place=4):∃ i,i<R.length∧(R.getD i Rw.none).nu=(j:Int)+1:=by
 have hj:j<ts.length:=(Qh ht).1;obtain⟨f,hf⟩:∃ f,fs[j]?=some f:=⟨_,Qg (by rw[←h.len];exact hj)⟩
 obtain⟨r,hr,e⟩:=yU (cd:=cd) (ts.zip fs) 0 j t f (fg.2 ⟨ht,hf⟩) h4;obtain⟨i,hi,e2⟩:=Qbi (h.perm.mem_iff.2 hr);exact⟨i,hi,by rw[aG hi,e2,e];simp⟩
theorem Tab.from (h:Tab n cd ts fs R) {r:Rw} (hr:r∈R):∃ (j:Nat) (t:Th),ts[j]?=some t∧t.place=4∧r.nu=(j:Int)+1∧r.st=t.stamp:=by
 obtain⟨j,t,f,a,b,c⟩:=je _ _ _ (h.perm.mem_iff.1 hr);exact⟨j,t,(fg.1 a).1,b,by rw[c];simp,by rw[c]⟩
theorem ll (h:(R.map Rw.nu).Nodup) {i k:Nat} (hi:i<R.length) (hk:k<R.length) (e:(R.getD i Rw.none).nu=(R.getD k Rw.none).nu):i=k:=by
 rw[aG hi,aG hk] at e;have h':=Qcg.1 h
 rcases Qde i k with q | q | q
 ·exact absurd (by rw[Qbk,Qbk];exact e) (h' i k (by simpa using hi) (by simpa using hk) q)
 ·exact q
 ·exact absurd (by rw[Qbk,Qbk];exact e.symm) (h' k i (by simpa using hk) (by simpa using hi) q)
theorem i8 {fs:List Fe} {R:List Rw} {F:List Fe} (hn:(R.map Rw.nu).Nodup) (hb:∀ r∈R,1≤r.nu∧r.nu≤(fs.length:Int)):∀ m,m≤R.length→(∀ i,i<m→(sI fs R F m)[((R.getD i Rw.none).nu - 1).toNat]?=some (F.getD i Fe.none))∧∀ j:Nat,(∀ i,i<m→(R.getD i Rw.none).nu≠(j:Int)+1)→(sI fs R F m)[j]?=fs[j]?
 | 0,_=>⟨fun i h=>absurd h (Qbh _),fun j _=>rfl⟩
 | m+1,h=>by
  obtain⟨q1,q2⟩:=i8 (F:=F) hn hb m (by omega);have hbm:=hb _ (Qab (show m<R.length by omega));rw[←aG (d:=Rw.none) (show m<R.length by omega)] at hbm;rw[lr];refine⟨fun i hi=>?_,fun j hj=>?_⟩
  ·by_cases e:i=m
   ·subst e;rw[Qcr (by rw[pz];omega)]
   ·have hbi:=hb _ (Qab (show i<R.length by omega));rw[←aG (d:=Rw.none) (show i<R.length by omega)] at hbi;have hne:(R.getD m Rw.none).nu≠(R.getD i Rw.none).nu:=fun q=>e (ll hn (by omega) (by omega) q.symm);rw[Qcc (by omega)];exact q1 i (by omega)
  ·rw[Qcc (by have:=hj m (by omega);omega)];exact q2 j fun i hi=>hj i (by omega)
theorem l5 (fs:List Fe) (R:List Rw) (F:List Fe):(ei fs R F).length=fs.length:=pz fs R F _
theorem fk (R:List Rw) (fs:List Fe):(ay R fs).length=R.length:=Qa9 _
theorem Tab.pick (h:Tab n cd ts fs R) {F:List Fe} (hF:F.length=R.length):ay R (ei fs R F)=F:=by
 refine Qc2 fun i=>?_;by_cases hi:i<R.length
 ·unfold ay;rw[Qak,Qg hi,Qc1,←aG (d:=Rw.none) hi];have:=(i8 (F:=F) h.nod h.nu R.length (Qj _)).1 i hi;unfold ei;rw[Qa2,this,Option.getD_some,aG (show i<F.length by omega),Qg]
 ·rw[Qan (by rw[fk];omega),Qan (by omega)]
theorem Tab.lay2 (h:Tab n cd ts fs R) (A B:List Fe):ei (ei fs R A) R B=ei fs R B:=by
 refine Qc2 fun j=>?_;have a1:=i8 (fs:=ei fs R A) (F:=B) h.nod (by rw[l5];exact h.nu) R.length (Qj _);have a2:=i8 (fs:=fs) (F:=B) h.nod h.nu R.length (Qj _);have a3:=i8 (fs:=fs) (F:=A) h.nod h.nu R.length (Qj _);by_cases q:∃ i,i<R.length∧(R.getD i Rw.none).nu=(j:Int)+1
 ·obtain⟨i,hi,e⟩:=q;have e1:=a1.1 i hi;have e2:=a2.1 i hi;rw[e,show ((j:Int)+1 - 1).toNat=j by omega] at e1 e2;exact e1.trans e2.symm
 ·have hq:∀ i,i<R.length→(R.getD i Rw.none).nu≠(j:Int)+1:=fun i hi e=>q ⟨i,hi,e⟩;exact(a1.2 j hq).trans ((a3.2 j hq).trans (a2.2 j hq).symm)
def uA (F:List Fe):Prop:=∀ f∈F,gh f.ho=true∧cM f.tr=true
theorem Tab.good (h:Tab n cd ts fs R):uA (ay R fs):=fun f hf=>by
 unfold ay at hf;obtain⟨r,hr,e⟩:=List.mem_map.1 hf;obtain⟨j,t,a,b,c,_⟩:=h.from hr;have hj:j<ts.length:=(Qh a).1;have hj':j<fs.length:=by rw[←h.len];exact hj
 rw[c,show ((j:Int)+1 - 1).toNat=j by omega,aG hj'] at e;have:=h.may j t _ a (Qg hj') b;rw[e] at this;unfold bq at this;simp only[Bool.and_eq_true] at this;exact⟨this.1.2,this.2⟩
theorem Tab.back (h:Tab n cd ts fs R) {F:List Fe} (hF:F.length=R.length) (hg:uA F):Tab n cd ts (ei fs R F) R:=by
 refine h.turn (l5 _ _ _) fun j t f a b h4=>?_;obtain⟨i,hi,e⟩:=h.has a h4;have e1:=(i8 (F:=F) h.nod h.nu R.length (Qj _)).1 i hi;rw[e,show ((j:Int)+1 - 1).toNat=j by omega] at e1;have b':(sI fs R F R.length)[j]?=some f:=b;rw[e1] at b';cases b';have hj:j<ts.length:=(Qh a).1;have hs:=h.may j t _ a (Qg (by rw[←h.len];exact hj)) h4;obtain⟨g1,g2⟩:=hg (F.getD i Fe.none) (by rw[aG (show i<F.length by omega)];exact Qab _);unfold bq at hs ⊢;simp only[Bool.and_eq_true] at hs ⊢;exact⟨⟨hs.1.1,g1⟩,g2⟩
theorem Ae (h:i<F.length):(bK R F e).getD i Fe.none=jI R F e i:=by
 unfold bK;rw[aG (by simpa using h)];simp
theorem jL {k:Int} (h:e∈dI R F k):e.ro<R.length∧e.s.th=(R.getD e.ro Rw.none).nu∧∃ j,j<(R.getD e.ro Rw.none).ps.length∧e.s.pl=(j:Int)∧e.s.wh=(R.getD e.ro Rw.none).ps.getD j Pt.none∧e.s.wh.wn=5∧lay e.s.wh.vb=k:=by
 unfold dI j7 at h;rw[List.mem_flatMap] at h;obtain⟨i,hi,h⟩:=h;rw[Qdb] at hi;unfold jO at h;split at h
 ·cases h
 ·unfold fD at h;rw[List.mem_filterMap] at h;obtain⟨j,hj,h⟩:=h;rw[Qdb] at hj;split at h
  ·rename_i hc;cases h;exact⟨hi,rfl,j,hj,rfl,rfl,hc.1,hc.2⟩
  ·cases h
theorem xC (p:Pt):f9 p p=true:=by unfold f9;simp
theorem D1 (h:(R.map Rw.nu).Nodup) {i:Nat} (hi:i<R.length):iB R (R.getD i Rw.none).nu=some i:=by
 unfold iB;rw[Qcq];refine⟨hi,by rw[aG hi];simp,fun j hj q=>?_⟩;have e:(R.getD j Rw.none).nu=(R.getD i Rw.none).nu:=by rw[aG (show j<R.length by omega)];simpa using q
 exact absurd (ll h (by omega) hi e) (by omega)
theorem pR {k:Int} (hn:(R.map Rw.nu).Nodup) (h:e∈dI R F k):dZ R e.s=some e:=by
 obtain⟨h1,h2,j,h3,h4,h5,h6,h7⟩:=jL h;unfold dZ;rw[h2,D1 hn h1];simp only;rw[if_pos];unfold eY;rw[h4,h6,show ((j:Int)).toNat=j by omega,←h5,xC,Qy (show (0:Int)≤(j:Int) by omega),Qy (show (j:Int)<((R.getD e.ro Rw.none).ps.length:Int) by omega)];rfl
def lL (a b:Se):Prop:=a.ro<b.ro∨a.ro=b.ro∧a.s.pl<b.s.pl
theorem Gq (R:List Rw) (F:List Fe) (k:Int):(dI R F k).Pairwise lL:=by
 unfold dI j7;rw[List.flatMap_def,List.pairwise_flatten];refine⟨fun l hl=>?_,?_⟩
 ·obtain⟨i,hi,rfl⟩:=List.mem_map.1 hl;unfold jO;split
  ·exact List.Pairwise.nil
  ·unfold fD;refine List.Pairwise.filterMap _ (R:=fun a b:Nat=>a<b) (fun a a' haa b hb b' hb'=>?_) List.pairwise_lt_range;split at hb
   ·split at hb'
    ·cases hb;cases hb';exact Or.inr ⟨rfl,by show (a:Int)<(a':Int);omega⟩
    ·cases hb'
   ·cases hb
 ·refine List.Pairwise.map _ (R:=fun a b:Nat=>a<b) (fun a b hab=>?_) List.pairwise_lt_range;intro x hx y hy
  have ro:∀ {i:Nat} {x:Se},x∈jO R F k i→x.ro=i:=fun {i x} h=>by
   unfold jO at h;split at h
   ·cases h
   ·exact EZ h
  exact Or.inl (by rw[ro hx,ro hy];exact hab)
theorem Bo {k:Int} {a b:Se} (hn:(R.map Rw.nu).Nodup) (ha:a∈dI R F k) (hb:b∈dI R F k) (h:¬(a.ro=b.ro∧a.s.pl=b.s.pl)):ez a b=false:=by
 obtain⟨a1,a2,_,_,_,_,_,a7⟩:=jL ha;obtain⟨b1,b2,_,_,_,_,_,b7⟩:=jL hb;rw[mw (fun q=>h ⟨?_,q.2⟩),a7,b7]
 ·simp
 ·exact ll hn a1 b1 (by rw[←a2,←b2];exact q.1)
theorem un {R:List Rw}:∀ (L acc:List Se),(∀ e∈L,dZ R e.s=some e)→(L.Pairwise fun a b=>ez b a=false)→(∀ a∈acc,∀ b∈L,ez b a=false)→cH R (L.map Se.s) acc=some (acc++L)
 | [],acc,_,_,_=>by simp[cH]
 | e :: L,acc,h1,h2,h3=>by
  rw[Qbs];unfold cH;rw[h1 e Qaw];simp only
  rw[if_pos (by
   unfold eV;rw[Qch];intro o ho;rw[h3 o ho e Qaw]
   rfl)]
  rw[Qbq] at h2
  rw[un L (acc++[e]) (fun x hx=>h1 x (Qar _ hx)) h2.2 (fun a ha b hb=>by
   rcases Qd2.1 ha with ha | ha
   ·exact h3 a ha b (Qar _ hb)
   ·rw[Qby] at ha;subst ha
    exact h2.1 b hb),Qb8,Qcx]
theorem uH {k:Int} (hn:(R.map Rw.nu).Nodup) (h:∀ e∈L,e∈dI R F k) (hp:L.Pairwise fun a b=>¬(a.ro=b.ro∧a.s.pl=b.s.pl)):cH R (L.map Se.s) []=some L:=by
 have:=un (R:=R) L [] (fun e he=>pR hn (h e he)) (Qck (fun {a b} ha hb q=>Bo hn (h b hb) (h a ha) (fun z=>q ⟨z.1.symm,z.2.symm⟩)) hp) (fun a ha=>by cases ha);simpa using this
theorem Tab.one {k:Int} {a:Se} (h:Tab n cd ts fs R) (ha:a∈dI R F k):cH R [a.s] []=some [a]:=uH (L:=[a]) (k:=k) h.nod (fun e he=>by
 rw[Qby] at he;subst he;exact ha) (by simp)
theorem FU (k:Int):bv (nI k) &&& ~~~255#16=0#16:=by
 rcases oK k with h | h
 ·rcases h with rfl | rfl | rfl | rfl | rfl | rfl | rfl | rfl <;> decide
 ·rw[rZ h];decide
theorem xB {s:Int} (k:Int) (h:cM s=true):cM (qD s k)=true:=by
 rw[nN] at h ⊢;unfold qD;rw[yR,Cu];have h1:bv s &&& ~~~255#16=0#16:=by simpa using h
 have h2:=FU k
 have e:(bv s ||| bv (nI k)) &&& ~~~255#16=0#16:=by
  apply BitVec.eq_of_getLsbD_eq;intro i hi;have a:(bv s &&& ~~~255#16).getLsbD i=false:=by rw[h1,BitVec.getLsbD_zero]
  have b:(bv (nI k) &&& ~~~255#16).getLsbD i=false:=by rw[h2,BitVec.getLsbD_zero]
  rw[BitVec.getLsbD_and] at a b;rw[BitVec.getLsbD_and,BitVec.getLsbD_or,BitVec.getLsbD_zero,Bool.and_or_distrib_right,a,b];rfl
 rw[e];rfl
theorem qk {s:Int} (k:Int) (h:cM s=true):cM (iD s k)=true:=by
 rw[nN] at h ⊢;unfold iD;rw[jm,Cu];have h1:bv s &&& ~~~255#16=0#16:=by simpa using h
 have e:(bv s &&& ~~~bv (nI k)) &&& ~~~255#16=0#16:=by
  apply BitVec.eq_of_getLsbD_eq;intro i hi;have a:(bv s &&& ~~~255#16).getLsbD i=false:=by rw[h1,BitVec.getLsbD_zero]
  rw[BitVec.getLsbD_and] at a;rw[BitVec.getLsbD_and,BitVec.getLsbD_and,BitVec.getLsbD_zero,Bool.and_right_comm,a];rfl
 rw[e];rfl
theorem zw {p:Pt} (h1:gh f.ho=true) (h2:cM f.tr=true) (h3:gh ho=true):gh (ix f p ho).ho=true∧cM (ix f p ho).tr=true:=by
 unfold ix;split
 ·exact⟨h3,h2⟩
 ·split
  ·exact⟨h1,h2⟩
  ·split
   ·exact⟨h1,xB _ h2⟩
   ·split
    ·exact⟨h1,qk _ h2⟩
    ·split
     ·exact⟨h1,h2⟩
     ·split
      ·exact⟨h1,h2⟩
      ·exact⟨h1,h2⟩
theorem oq (he:e.ro<F.length) (hg:uA F):uA (bK R F e):=fun f hf=>by
 unfold bK at hf;obtain⟨i,hi,rfl⟩:=List.mem_map.1 hf;rw[Qdb] at hi;have q:=hg (F.getD i Fe.none) (by rw[aG hi];exact Qab _);have q':=hg (F.getD e.ro Fe.none) (by rw[aG he];exact Qab _);unfold jI;split
 ·exact zw q.1 q.2 q'.1
 ·exact q
theorem Tab.self (h:Tab n cd ts fs R):ei fs R (ay R fs)=fs:=by
 refine Qc2 fun j=>?_;have a:=i8 (fs:=fs) (F:=ay R fs) h.nod h.nu R.length (Qj _);by_cases q:∃ i,i<R.length∧(R.getD i Rw.none).nu=(j:Int)+1
 ·obtain⟨i,hi,e⟩:=q;have e1:=a.1 i hi;have hb:=h.nu _ (Qab hi);rw[←aG (d:=Rw.none) hi,e] at hb;have hj:j<fs.length:=by omega
  rw[e,show ((j:Int)+1 - 1).toNat=j by omega] at e1;refine e1.trans ?_;rw[aG (show i<(ay R fs).length by rw[fk];exact hi)];unfold ay;rw[Qbk,←aG (d:=Rw.none) hi,e,show ((j:Int)+1 - 1).toNat=j by omega,aG hj,Qg hj]
 ·exact a.2 j fun i hi e=>q ⟨i,hi,e⟩
theorem I5 (h:L.Pairwise lL) {a b:Se} (ha:a∈L) (hb:b∈L) (h1:a.ro=b.ro) (h2:a.s.pl=b.s.pl):a=b:=by
 obtain⟨i,hi,rfl⟩:=Qbi ha;obtain⟨j,hj,rfl⟩:=Qbi hb;have q:=Qcg.1 h
 rcases Qde i j with z | z | z
 ·have:=q i j hi hj z;unfold lL at this;omega
 ·subst z;rfl
 ·have:=q j i hj hi z;unfold lL at this;omega
theorem BN {L':List Se} (hp:L'.Perm L) (h':L'.Pairwise inS) (h:L.Pairwise lL):L'=L :=
 hp.eq_of_pairwise (fun a b ha hb h1 h2=>I5 h (hp.mem_iff.1 ha) hb (by unfold inS at h1 h2;omega) (by unfold inS at h1 h2;omega)) h' (h.imp (fun {a b} q=>by unfold lL at q;unfold inS;omega))
theorem GO {p:Nat} (hp:p<L.length) (h:∀ i,i<p→(L.getD i Se.none).s≠(L.getD p Se.none).s):Lib.idxBy eM (L.map Se.s) (L.getD p Se.none).s=(p:Int):=by
 have g:∀ j,j<L.length→(L.map Se.s)[j]?=some (L.getD j Se.none).s:=fun j hj=>by rw[Qak,Qg hj,Qc1,aG hj]
 suffices H:∀ (l:List Sd) (x:Sd) (k i:Nat),l[k]?=some x→(∀ j y,j<k→l[j]?=some y→y≠x)→Lib.idxByFrom eM x l i=((i+k:Nat):Int) by
  have:=H (L.map Se.s) (L.getD p Se.none).s p 0 (g p hp) (fun j y hj hy=>by
   rw[g j (by omega)] at hy;cases hy
   exact h j hj)
  unfold Lib.idxBy;rw[this,Qa8]
 intro l
 induction l with
 | nil=>intro x k i h1;simp at h1
 | cons z l ih =>
  intro x k i h1 h2;cases k with
  | zero =>
   simp at h1;subst h1;unfold Lib.idxByFrom;rw[if_pos (fH.2 rfl)];simp
  | succ k =>
   unfold Lib.idxByFrom;rw[if_neg (fun q=>h2 0 z (by omega) rfl (fH.1 q).symm),ih x k (i+1) (by simpa using h1) (fun j y hj hy=>h2 (j+1) y (by omega) (by simpa using hy))];simp;omega
theorem Ii (h:L.Pairwise lL):L.Pairwise fun a b=>¬(a.ro=b.ro∧a.s.pl=b.s.pl):=h.imp (fun {a b} q=>by unfold lL at q;omega)
structure Onc (m:Int) (cd:Int→Hd×List Pt) (ts:List Th) (fs:List Fe) (R:List Rw) (k:Int) (X:List Fe) (L acc:List Se):Prop where
 base:Tab m cd ts fs R
 tab:Tab m cd ts X R
 lies:ei fs R (ay R X)=X
 mem:∀ e∈L,e∈dI R (ay R fs) k
 up:L.Pairwise lL
 all:jZ R fs k=uX R L.length (ay R X) L acc
theorem Onc.start {m:Int} {k:Int} (h:Tab m cd ts fs R):Onc m cd ts fs R k fs (dI R (ay R fs) k) []:=⟨h,h,h.self,fun _ h=>h,Gq _ _ _,rfl⟩
theorem Onc.list {m:Int} {k:Int} {X:List Fe} (h:Onc m cd ts fs R k X L acc):cH R (L.map Se.s) []=some L:=uH h.base.nod h.mem (Ii h.up)
theorem Onc.len {m:Int} {k:Int} {X:List Fe} (h:Onc m cd ts fs R k X L acc):X.length=fs.length:=by rw[←h.tab.len,h.base.len]
theorem Onc.lt {m:Int} {k:Int} {X:List Fe} (_:Onc m cd ts fs R k X L acc) (h0:0<L.length):eO R (ay R X) L<L.length:=DE (List.length_pos_iff.1 h0)
theorem Onc.step {m:Int} {k:Int} {X:List Fe} (h:Onc m cd ts fs R k X L acc) (h0:0<L.length):Onc m cd ts fs R k (ei X R (bK R (ay R X) (L.getD (eO R (ay R X) L) Se.none))) (L.eraseIdx (eO R (ay R X) L)) (acc++[L.getD (eO R (ay R X) L) Se.none]):=by
 obtain⟨p,hp⟩:=Qe (eO R (ay R X) L);have hlt:=h.lt h0;rw[←hp] at hlt ⊢;have hx:L.getD p Se.none∈L:=by rw[aG hlt];exact Qab _
 obtain⟨r1,_⟩:=jL (h.mem _ hx);have hl:(bK R (ay R X) (L.getD p Se.none)).length=R.length:=by rw[pw,fk]
 have hg:uA (bK R (ay R X) (L.getD p Se.none)):=oq (by rw[fk];exact r1) h.tab.good;refine⟨h.base,h.tab.back hl hg,?_,fun e he=>h.mem e (List.mem_of_mem_eraseIdx he),h.up.sublist (List.eraseIdx_sublist _ _),?_⟩
 ·rw[h.tab.pick hl];exact(h.base.lay2 (ay R X) _).symm.trans (by rw[h.lies])
 ·rw[h.tab.pick hl,h.all];obtain⟨n,hn⟩:∃ n,L.length=n+1:=⟨L.length - 1,by omega⟩
  rw[hn,Bb (List.length_pos_iff.1 h0),List.length_eraseIdx_of_lt hlt,hn,←hp];rfl
theorem Onc.end {m:Int} {k:Int} {X:List Fe} (h:Onc m cd ts fs R k X [] acc):ei fs R (jZ R fs k).1=X:=by
 rw[h.all];exact h.lies
theorem Onc.next {m:Int} {k:Int} {X:List Fe} {e:Ending} (h:Onc m cd ts fs R k X L acc) (h0:0<L.length) (q:CX w 0 m cd ts X (L.map Se.s) e w'):e=.returned (.tuple #[.int .i64 ((eO R (ay R X) L:Nat):Int),.int .i64 0])∧w.grownBy w' none:=by
 obtain⟨p,e1,g,_,h1⟩:=q;have h2:=h1 R L rfl h.tab.tab h.list;rw[if_neg (List.length_pos_iff.1 h0)] at h2;obtain⟨L',hp,hs,e2⟩:=h2;have e3:=BN hp hs h.up;subst e3;have hlt:=h.lt h0
 rw[GO hlt (fun i hi e=>by
  have z:=Qcg.1 h.up i _ (by omega) hlt hi;rw[aG (show i<L'.length by omega),aG hlt] at e;have hx:=h.mem _ (Qab (show i<L'.length by omega));have hy:=h.mem _ (Qab hlt);have f1:=pR h.base.nod hx;have f2:=pR h.base.nod hy;rw[e,f2] at f1;have f3:=Qa1 f1;rw[f3] at z;unfold lL at z
  omega)] at e2
 rw[lI h.tab.tab h.list,e2] at e1;exact⟨e1,g⟩
theorem Onc.verb {m:Int} {k:Int} {X:List Fe} (h:Onc m cd ts fs R k X L acc) {x:Se} (hx:x∈L):lay x.s.wh.vb=k:=by
 obtain⟨_,_,_,_,_,_,_,q⟩:=jL (h.mem x hx);exact q
