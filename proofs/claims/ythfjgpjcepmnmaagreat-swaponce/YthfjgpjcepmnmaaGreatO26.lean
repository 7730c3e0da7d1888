import Derived.Test.YthfjgpjcepmnmaaGreatO25
import Derived.Test.YthfjgpjcepmnmaaGreatO11
import Derived.Test.YthfjgpjcepmnmaaGreatO16
namespace Go.Proofs.YthfjgpjcepmnmaaGreat
open Go.RowKit Go.Shelf
def et (cd:Int→Hd×List Pt):List (Th×Fe)→Nat→List Rw
 | [],_=>[]
 | (t,_) :: r,i=>if t.place=4 then ⟨(i:Int)+1,t.stamp,(cd t.card).1,(cd t.card).2⟩ :: et cd r (i+1) else et cd r (i+1)
theorem gd {cd:Int→Hd×List Pt} {t:Th} {f:Fe} {r:List (Th×Fe)} {i:Nat} (h:¬t.place=4):et cd ((t,f) :: r) i=et cd r (i+1):=by
 rw[et,if_neg h]
theorem dX {cd:Int→Hd×List Pt} {t:Th} {f:Fe} {r:List (Th×Fe)} {i:Nat} (h:t.place=4):et cd ((t,f) :: r) i=⟨(i:Int)+1,t.stamp,(cd t.card).1,(cd t.card).2⟩ :: et cd r (i+1):=by
 rw[et,if_pos h]
theorem kz {n:Int} {cd:Int→Hd×List Pt}:∀ (l:List (Th×Fe)) (i:Nat) (acc A:List Rw),cZ n cd l i acc=some A→A=acc++et cd l i∧∀ x∈l,x.1.place=4→aQ x.1 x.2=true
 | [],i,acc,A,h=>by
  simp only[cZ,Option.some.injEq] at h
  subst h
  exact⟨(List.append_nil _).symm,fun x hx=>by cases hx⟩
 | (t,f) :: r,i,acc,A,h=>by
  unfold cZ at h
  split at h
  ·cases h
  ·split at h
   ·rename_i hp
    obtain⟨e,q⟩:=kz r (i+1) acc A h
    refine⟨?_,fun x hx h4=>?_⟩
    ·rw[e,gd hp]
    ·rcases List.mem_cons.1 hx with rfl | hx
     ·exact absurd h4 hp
     ·exact q x hx h4
   ·rename_i hp
    have hp':t.place=4:=Decidable.of_not_not hp
    split at h
    ·cases h
    ·rename_i hm
     split at h
     ·cases h
     ·obtain⟨e,q⟩:=kz r (i+1) _ A h
      refine⟨?_,fun x hx h4=>?_⟩
      ·rw[e,dX hp',List.append_assoc,List.singleton_append]
      ·rcases List.mem_cons.1 hx with rfl | hx
       ·have h2:¬aQ t f=false:=fun q=>hm (Or.inr q)
        cases h3:aQ t f with
        | true=>rfl
        | false=>exact absurd h3 h2
       ·exact q x hx h4
theorem kr {n:Int} {cd:Int→Hd×List Pt}:∀ (l l':List (Th×Fe)) (i:Nat) (acc:List Rw),l.length=l'.length→(∀ (j:Nat) t f t' f',l[j]?=some (t,f)→l'[j]?=some (t',f')→t=t'∧(t.place=4→aQ t f=aQ t f'))→cZ n cd l i acc=cZ n cd l' i acc
 | [],[],_,_,_,_=>rfl
 | [],_ :: _,_,_,h,_=>by cases h
 | _ :: _,[],_,_,h,_=>by cases h
 | (t,f) :: r,(t',f') :: r',i,acc,h,q=>by
  obtain⟨rfl,q0⟩:=q 0 t f t' f' rfl rfl
  have q1:∀ (j:Nat) a b c d,r[j]?=some (a,b)→r'[j]?=some (c,d)→a=c∧(a.place=4→aQ a b=aQ a d):=fun j a b c d h1 h2=>q (j+1) a b c d h1 h2
  have hl:r.length=r'.length:=by simpa using h
  unfold cZ
  rw[kr r r' (i+1) acc hl q1,kr r r' (i+1) _ hl q1]
  by_cases hp:t.place=4
  ·rw[q0 hp]
  ·simp only[if_pos hp]
theorem tN {cd:Int→Hd×List Pt}:∀ (l:List (Th×Fe)) (i:Nat),(∀ r∈et cd l i,(i:Int)<r.nu∧r.nu≤(i:Int)+l.length)∧(et cd l i).Pairwise fun a b=>a.nu<b.nu
 | [],i=>⟨fun r h=>(by cases h),List.Pairwise.nil⟩
 | (t,f) :: l,i=>by
  obtain⟨h1,h2⟩:=tN (cd:=cd) l (i+1)
  simp only[List.length_cons]
  by_cases hp:t.place=4
  ·rw[dX hp]
   refine⟨fun r hr=>?_,List.Pairwise.cons (fun r hr=>?_) h2⟩
   ·rcases List.mem_cons.1 hr with rfl | hr
    ·exact⟨by show (i:Int)<(i:Int)+1;omega,by show (i:Int)+1≤_;omega⟩
    ·have:=h1 r hr;omega
   ·have:=h1 r hr
    show (i:Int)+1<r.nu
    omega
  ·rw[gd hp]
   exact⟨fun r hr=>by have:=h1 r hr;omega,h2⟩
theorem wN {cd:Int→Hd×List Pt}:∀ (l:List (Th×Fe)) (i j:Nat) (t:Th) (f:Fe),l[j]?=some (t,f)→t.place=4→∃ r∈et cd l i,r.nu=(i:Int)+j+1
 | [],i,j,t,f,h,_=>by simp at h
 | (t',f') :: l,i,0,t,f,h,h4=>by
  simp at h
  obtain⟨rfl,rfl⟩:=h
  rw[dX h4]
  exact⟨_,List.mem_cons_self,by show (i:Int)+1=_;omega⟩
 | (t',f') :: l,i,j+1,t,f,h,h4=>by
  obtain⟨r,hr,e⟩:=wN (cd:=cd) l (i+1) j t f (by simpa using h) h4
  refine⟨r,?_,by rw[e];omega⟩
  by_cases hp:t'.place=4
  ·rw[dX hp];exact List.mem_cons_of_mem _ hr
  ·rw[gd hp];exact hr
theorem iJ {cd:Int→Hd×List Pt}:∀ (l:List (Th×Fe)) (i:Nat) (r:Rw),r∈et cd l i→∃ (j:Nat) (t:Th) (f:Fe),l[j]?=some (t,f)∧t.place=4∧r=⟨(i:Int)+j+1,t.stamp,(cd t.card).1,(cd t.card).2⟩
 | [],i,r,h=>by cases h
 | (t,f) :: l,i,r,h=>by
  by_cases hp:t.place=4
  ·rw[dX hp] at h
   rcases List.mem_cons.1 h with rfl | h
   ·exact⟨0,t,f,rfl,hp,by simp⟩
   ·obtain⟨j,a,b,h1,h2,h3⟩:=iJ l (i+1) r h
    exact⟨j+1,a,b,by simpa using h1,h2,by rw[h3];simp only[Rw.mk.injEq,and_true];omega⟩
  ·rw[gd hp] at h
   obtain⟨j,a,b,h1,h2,h3⟩:=iJ l (i+1) r h
   exact⟨j+1,a,b,by simpa using h1,h2,by rw[h3];simp only[Rw.mk.injEq,and_true];omega⟩
structure Tab (n:Int) (cd:Int→Hd×List Pt) (ts:List Th) (fs:List Fe) (R:List Rw):Prop where
 tab:bd n cd ts fs=some R
 len:ts.length=fs.length
 perm:R.Perm (et cd (ts.zip fs) 0)
 nod:(R.map Rw.nu).Nodup
 nu:∀ r∈R,1≤r.nu∧r.nu≤(fs.length:Int)
 may:∀ (j:Nat) t f,ts[j]?=some t→fs[j]?=some f→t.place=4→aQ t f=true
 few:R.length≤16
theorem lX {n:Int} {cd:Int→Hd×List Pt}:∀ (l:List (Th×Fe)) (i:Nat) (acc A:List Rw),acc.length≤16→cZ n cd l i acc=some A→A.length≤16
 | [],i,acc,A,h0,h=>by
  simp only[cZ,Option.some.injEq] at h
  subst h
  exact h0
 | (t,f) :: r,i,acc,A,h0,h=>by
  unfold cZ at h
  split at h
  ·cases h
  ·split at h
   ·exact lX r (i+1) acc A h0 h
   ·split at h
    ·cases h
    ·rename_i hm
     split at h
     ·cases h
     ·exact lX r (i+1) _ A (by rw[List.length_append,List.length_singleton];have:¬acc.length=16:=fun q=>hm (Or.inl q);omega) h
theorem dC {ts:List Th} {fs:List Fe} {j:Nat} {t:Th} {f:Fe}:(ts.zip fs)[j]?=some (t,f)↔ts[j]?=some t∧fs[j]?=some f:=by
 rw[List.getElem?_zip_eq_some]
theorem Tab.of {n:Int} {cd:Int→Hd×List Pt} {ts:List Th} {fs:List Fe} {R:List Rw} (h:bd n cd ts fs=some R):Tab n cd ts fs R:=by
 have h':=h
 unfold bd at h
 split at h
 ·rename_i hl
  split at h
  ·rename_i acc ha
   split at h
   ·cases h
    obtain⟨e,q⟩:=kz _ _ _ _ ha
    rw[List.nil_append] at e
    have hp:(sortR acc).Perm (et cd (ts.zip fs) 0):=by rw[←e];exact List.mergeSort_perm _ _
    obtain⟨n1,n2⟩:=tN (cd:=cd) (ts.zip fs) 0
    refine⟨h',hl,hp,?_,fun r hr=>?_,fun j t f a b c=>?_,?_⟩
    ·rw[(hp.map Rw.nu).nodup_iff]
     exact List.Pairwise.map _ (fun a b q=>by omega) n2
    ·have:=n1 r (hp.mem_iff.1 hr)
     rw[List.length_zip] at this
     omega
    ·exact q (t,f) (List.mem_of_getElem? (dC.2 ⟨a,b⟩)) c
    ·rw[hp.length_eq,←e];exact lX _ _ _ _ (Nat.zero_le _) ha
   ·cases h
  ·cases h
 ·cases h
theorem Tab.turn {n:Int} {cd:Int→Hd×List Pt} {ts:List Th} {fs fs':List Fe} {R:List Rw} (h:Tab n cd ts fs R) (hl:fs'.length=fs.length) (hm:∀ (j:Nat) t f,ts[j]?=some t→fs'[j]?=some f→t.place=4→aQ t f=true):Tab n cd ts fs' R:=by
 refine Tab.of ?_
 have e:cZ n cd (ts.zip fs') 0 []=cZ n cd (ts.zip fs) 0 []:=by
  refine kr _ _ _ _ (by rw[List.length_zip,List.length_zip,hl]) fun j t f t' f' a b=>?_
  obtain⟨a1,a2⟩:=dC.1 a
  obtain⟨b1,b2⟩:=dC.1 b
  rw[a1] at b1
  cases b1
  exact⟨rfl,fun h4=>by rw[hm j t f a1 a2 h4,h.may j t f' a1 b2 h4]⟩
 have:=h.tab
 unfold bd at this ⊢
 rw[hl,e]
 exact this
theorem Tab.has {n:Int} {cd:Int→Hd×List Pt} {ts:List Th} {fs:List Fe} {R:List Rw} (h:Tab n cd ts fs R) {j:Nat} {t:Th} (ht:ts[j]?=some t) (h4:t.place=4):∃ i,i<R.length∧(R.getD i Rw.none).nu=(j:Int)+1:=by
 have hj:j<ts.length:=(List.getElem?_eq_some_iff.1 ht).1
 obtain⟨f,hf⟩:∃ f,fs[j]?=some f:=⟨_,List.getElem?_eq_getElem (by rw[←h.len];exact hj)⟩
 obtain⟨r,hr,e⟩:=wN (cd:=cd) (ts.zip fs) 0 j t f (dC.2 ⟨ht,hf⟩) h4
 obtain⟨i,hi,e2⟩:=List.getElem_of_mem (h.perm.mem_iff.2 hr)
 exact⟨i,hi,by rw[aw hi,e2,e];simp⟩
theorem Tab.from {n:Int} {cd:Int→Hd×List Pt} {ts:List Th} {fs:List Fe} {R:List Rw} (h:Tab n cd ts fs R) {r:Rw} (hr:r∈R):∃ (j:Nat) (t:Th),ts[j]?=some t∧t.place=4∧r.nu=(j:Int)+1∧r.st=t.stamp:=by
 obtain⟨j,t,f,a,b,c⟩:=iJ _ _ _ (h.perm.mem_iff.1 hr)
 exact⟨j,t,(dC.1 a).1,b,by rw[c];simp,by rw[c]⟩
theorem kI {R:List Rw} (h:(R.map Rw.nu).Nodup) {i k:Nat} (hi:i<R.length) (hk:k<R.length) (e:(R.getD i Rw.none).nu=(R.getD k Rw.none).nu):i=k:=by
 rw[aw hi,aw hk] at e
 have h':=List.pairwise_iff_getElem.1 h
 rcases Nat.lt_trichotomy i k with q | q | q
 ·exact absurd (by rw[List.getElem_map,List.getElem_map];exact e) (h' i k (by simpa using hi) (by simpa using hk) q)
 ·exact q
 ·exact absurd (by rw[List.getElem_map,List.getElem_map];exact e.symm) (h' k i (by simpa using hk) (by simpa using hi) q)
theorem fR {fs:List Fe} {R:List Rw} {F:List Fe} (hn:(R.map Rw.nu).Nodup) (hb:∀ r∈R,1≤r.nu∧r.nu≤(fs.length:Int)):∀ m,m≤R.length→(∀ i,i<m→(qO fs R F m)[((R.getD i Rw.none).nu - 1).toNat]?=some (F.getD i Fe.none))∧∀ j:Nat,(∀ i,i<m→(R.getD i Rw.none).nu≠(j:Int)+1)→(qO fs R F m)[j]?=fs[j]?
 | 0,_=>⟨fun i h=>absurd h (Nat.not_lt_zero _),fun j _=>rfl⟩
 | m+1,h=>by
  obtain⟨q1,q2⟩:=fR (F:=F) hn hb m (by omega)
  have hbm:=hb _ (List.getElem_mem (show m<R.length by omega))
  rw[←aw (d:=Rw.none) (show m<R.length by omega)] at hbm
  rw[jZ]
  refine⟨fun i hi=>?_,fun j hj=>?_⟩
  ·by_cases e:i=m
   ·subst e
    rw[List.getElem?_set_self (by rw[lK];omega)]
   ·have hbi:=hb _ (List.getElem_mem (show i<R.length by omega))
    rw[←aw (d:=Rw.none) (show i<R.length by omega)] at hbi
    have hne:(R.getD m Rw.none).nu≠(R.getD i Rw.none).nu:=fun q=>e (kI hn (by omega) (by omega) q.symm)
    rw[List.getElem?_set_ne (by omega)]
    exact q1 i (by omega)
  ·rw[List.getElem?_set_ne (by have:=hj m (by omega);omega)]
   exact q2 j fun i hi=>hj i (by omega)
theorem js (fs:List Fe) (R:List Rw) (F:List Fe):(dN fs R F).length=fs.length:=lK fs R F _
theorem ei (R:List Rw) (fs:List Fe):(au R fs).length=R.length:=List.length_map _
theorem Tab.pick {n:Int} {cd:Int→Hd×List Pt} {ts:List Th} {fs:List Fe} {R:List Rw} (h:Tab n cd ts fs R) {F:List Fe} (hF:F.length=R.length):au R (dN fs R F)=F:=by
 refine List.ext_getElem? fun i=>?_
 by_cases hi:i<R.length
 ·unfold au
  rw[List.getElem?_map,List.getElem?_eq_getElem hi,Option.map_some,←aw (d:=Rw.none) hi]
  have:=(fR (F:=F) h.nod h.nu R.length (Nat.le_refl _)).1 i hi
  unfold dN
  rw[List.getD_eq_getElem?_getD,this,Option.getD_some,aw (show i<F.length by omega),List.getElem?_eq_getElem]
 ·rw[List.getElem?_eq_none (by rw[ei];omega),List.getElem?_eq_none (by omega)]
theorem Tab.lay2 {n:Int} {cd:Int→Hd×List Pt} {ts:List Th} {fs:List Fe} {R:List Rw} (h:Tab n cd ts fs R) (A B:List Fe):dN (dN fs R A) R B=dN fs R B:=by
 refine List.ext_getElem? fun j=>?_
 have a1:=fR (fs:=dN fs R A) (F:=B) h.nod (by rw[js];exact h.nu) R.length (Nat.le_refl _)
 have a2:=fR (fs:=fs) (F:=B) h.nod h.nu R.length (Nat.le_refl _)
 have a3:=fR (fs:=fs) (F:=A) h.nod h.nu R.length (Nat.le_refl _)
 by_cases q:∃ i,i<R.length∧(R.getD i Rw.none).nu=(j:Int)+1
 ·obtain⟨i,hi,e⟩:=q
  have e1:=a1.1 i hi
  have e2:=a2.1 i hi
  rw[e,show ((j:Int)+1 - 1).toNat=j by omega] at e1 e2
  exact e1.trans e2.symm
 ·have hq:∀ i,i<R.length→(R.getD i Rw.none).nu≠(j:Int)+1:=fun i hi e=>q ⟨i,hi,e⟩
  exact(a1.2 j hq).trans ((a3.2 j hq).trans (a2.2 j hq).symm)
def sK (F:List Fe):Prop:=∀ f∈F,fm f.ho=true∧bP f.tr=true
theorem Tab.good {n:Int} {cd:Int→Hd×List Pt} {ts:List Th} {fs:List Fe} {R:List Rw} (h:Tab n cd ts fs R):sK (au R fs):=fun f hf=>by
 unfold au at hf
 obtain⟨r,hr,e⟩:=List.mem_map.1 hf
 obtain⟨j,t,a,b,c,_⟩:=h.from hr
 have hj:j<ts.length:=(List.getElem?_eq_some_iff.1 a).1
 have hj':j<fs.length:=by rw[←h.len];exact hj
 rw[c,show ((j:Int)+1 - 1).toNat=j by omega,aw hj'] at e
 have:=h.may j t _ a (List.getElem?_eq_getElem hj') b
 rw[e] at this
 unfold aQ at this
 simp only[Bool.and_eq_true] at this
 exact⟨this.1.2,this.2⟩
theorem Tab.back {n:Int} {cd:Int→Hd×List Pt} {ts:List Th} {fs:List Fe} {R:List Rw} (h:Tab n cd ts fs R) {F:List Fe} (hF:F.length=R.length) (hg:sK F):Tab n cd ts (dN fs R F) R:=by
 refine h.turn (js _ _ _) fun j t f a b h4=>?_
 obtain⟨i,hi,e⟩:=h.has a h4
 have e1:=(fR (F:=F) h.nod h.nu R.length (Nat.le_refl _)).1 i hi
 rw[e,show ((j:Int)+1 - 1).toNat=j by omega] at e1
 have b':(qO fs R F R.length)[j]?=some f:=b
 rw[e1] at b'
 cases b'
 have hj:j<ts.length:=(List.getElem?_eq_some_iff.1 a).1
 have hs:=h.may j t _ a (List.getElem?_eq_getElem (by rw[←h.len];exact hj)) h4
 obtain⟨g1,g2⟩:=hg (F.getD i Fe.none) (by rw[aw (show i<F.length by omega)];exact List.getElem_mem _)
 unfold aQ at hs ⊢
 simp only[Bool.and_eq_true] at hs ⊢
 exact⟨⟨hs.1.1,g1⟩,g2⟩
theorem yj {R:List Rw} {F:List Fe} {e:Se} {i:Nat} (h:i<F.length):(bp R F e).getD i Fe.none=iZ R F e i:=by
 unfold bp
 rw[aw (by simpa using h)]
 simp
theorem j9 {R:List Rw} {F:List Fe} {k:Int} {e:Se} (h:e∈dc R F k):e.ro<R.length∧e.s.th=(R.getD e.ro Rw.none).nu∧∃ j,j<(R.getD e.ro Rw.none).ps.length∧e.s.pl=(j:Int)∧e.s.wh=(R.getD e.ro Rw.none).ps.getD j Pt.none∧e.s.wh.wn=5∧lay e.s.wh.vb=k:=by
 unfold dc ie at h
 rw[List.mem_flatMap] at h
 obtain⟨i,hi,h⟩:=h
 rw[List.mem_range] at hi
 unfold jc at h
 split at h
 ·cases h
 ·unfold eC at h
  rw[List.mem_filterMap] at h
  obtain⟨j,hj,h⟩:=h
  rw[List.mem_range] at hj
  split at h
  ·rename_i hc
   cases h
   exact⟨hi,rfl,j,hj,rfl,rfl,hc.1,hc.2⟩
  ·cases h
theorem ve (p:Pt):dY p p=true:=by unfold dY;simp
theorem Ab {R:List Rw} (h:(R.map Rw.nu).Nodup) {i:Nat} (hi:i<R.length):gD R (R.getD i Rw.none).nu=some i:=by
 unfold gD
 rw[List.findIdx?_eq_some_iff_getElem]
 refine⟨hi,by rw[aw hi];simp,fun j hj q=>?_⟩
 have e:(R.getD j Rw.none).nu=(R.getD i Rw.none).nu:=by rw[aw (show j<R.length by omega)];simpa using q
 exact absurd (kI h (by omega) hi e) (by omega)
theorem lM {R:List Rw} {F:List Fe} {k:Int} {e:Se} (hn:(R.map Rw.nu).Nodup) (h:e∈dc R F k):dD R e.s=some e:=by
 obtain⟨h1,h2,j,h3,h4,h5,h6,h7⟩:=j9 h
 unfold dD
 rw[h2,Ab hn h1]
 simp only
 rw[if_pos]
 unfold dW
 rw[h4,h6,show ((j:Int)).toNat=j by omega,←h5,ve,decide_eq_true (show (0:Int)≤(j:Int) by omega),decide_eq_true (show (j:Int)<((R.getD e.ro Rw.none).ps.length:Int) by omega)]
 rfl
def ki (a b:Se):Prop:=a.ro<b.ro∨a.ro=b.ro∧a.s.pl<b.s.pl
theorem Fi (R:List Rw) (F:List Fe) (k:Int):(dc R F k).Pairwise ki:=by
 unfold dc ie
 rw[List.flatMap_def,List.pairwise_flatten]
 refine⟨fun l hl=>?_,?_⟩
 ·obtain⟨i,hi,rfl⟩:=List.mem_map.1 hl
  unfold jc
  split
  ·exact List.Pairwise.nil
  ·unfold eC
   refine List.Pairwise.filterMap _ (R:=fun a b:Nat=>a<b) (fun a a' haa b hb b' hb'=>?_) List.pairwise_lt_range
   split at hb
   ·split at hb'
    ·cases hb;cases hb'
     exact Or.inr ⟨rfl,by show (a:Int)<(a':Int);omega⟩
    ·cases hb'
   ·cases hb
 ·refine List.Pairwise.map _ (R:=fun a b:Nat=>a<b) (fun a b hab=>?_) List.pairwise_lt_range
  intro x hx y hy
  have ro:∀ {i:Nat} {x:Se},x∈jc R F k i→x.ro=i:=fun {i x} h=>by
   unfold jc at h
   split at h
   ·cases h
   ·exact De h
  exact Or.inl (by rw[ro hx,ro hy];exact hab)
theorem AA {R:List Rw} {F:List Fe} {k:Int} {a b:Se} (hn:(R.map Rw.nu).Nodup) (ha:a∈dc R F k) (hb:b∈dc R F k) (h:¬(a.ro=b.ro∧a.s.pl=b.s.pl)):dF a b=false:=by
 obtain⟨a1,a2,_,_,_,_,_,a7⟩:=j9 ha
 obtain⟨b1,b2,_,_,_,_,_,b7⟩:=j9 hb
 rw[kS (fun q=>h ⟨?_,q.2⟩),a7,b7]
 ·simp
 ·exact kI hn a1 b1 (by rw[←a2,←b2];exact q.1)
theorem qZ {R:List Rw}:∀ (L acc:List Se),(∀ e∈L,dD R e.s=some e)→(L.Pairwise fun a b=>dF b a=false)→(∀ a∈acc,∀ b∈L,dF b a=false)→bL R (L.map Se.s) acc=some (acc++L)
 | [],acc,_,_,_=>by simp[bL]
 | e :: L,acc,h1,h2,h3=>by
  rw[List.map_cons]
  unfold bL
  rw[h1 e List.mem_cons_self]
  simp only
  rw[if_pos (by
   unfold dS
   rw[List.all_eq_true]
   intro o ho
   rw[h3 o ho e List.mem_cons_self]
   rfl)]
  rw[List.pairwise_cons] at h2
  rw[qZ L (acc++[e]) (fun x hx=>h1 x (List.mem_cons_of_mem _ hx)) h2.2 (fun a ha b hb=>by
   rcases List.mem_append.1 ha with ha | ha
   ·exact h3 a ha b (List.mem_cons_of_mem _ hb)
   ·rw[List.mem_singleton] at ha
    subst ha
    exact h2.1 b hb),List.append_assoc,List.singleton_append]
theorem rG {R:List Rw} {F:List Fe} {k:Int} {L:List Se} (hn:(R.map Rw.nu).Nodup) (h:∀ e∈L,e∈dc R F k) (hp:L.Pairwise fun a b=>¬(a.ro=b.ro∧a.s.pl=b.s.pl)):bL R (L.map Se.s) []=some L:=by
 have:=qZ (R:=R) L [] (fun e he=>lM hn (h e he)) (List.Pairwise.imp_of_mem (fun {a b} ha hb q=>AA hn (h b hb) (h a ha) (fun z=>q ⟨z.1.symm,z.2.symm⟩)) hp) (fun a ha=>by cases ha)
 simpa using this
end Go.Proofs.YthfjgpjcepmnmaaGreat
namespace Go.Proofs.YthfjgpjcepmnmaaGreat
open Go.RowKit
structure Hp where
 vb:Int
 on:Int
 ct:Int
 ho:Int
 vn:Bool
 dr:Bool
 deriving DecidableEq
def Hp.none:Hp:=⟨0,0,0,0,false,false⟩
def bQ (nu:Int) (ps:List Pt):List Sd:=(plF ps 0 6).map fun i=>⟨nu,i,ps.getD i.toNat Pt.none⟩
def zy (fs:List Fe) (r:Rw):Bool:=iC (fs.getD (r.nu - 1).toNat Fe.none).tr 6
def gO (fs:List Fe) (r:Rw):List Sd:=if zy fs r then [] else bQ r.nu r.ps
def swL (R:List Rw) (fs:List Fe):List Sd:=R.flatMap (gO fs)
def hoN (fs:List Fe) (n:Int):Int:=(fs.getD (n - 1).toNat Fe.none).ho
def thN (ts:List Th) (n:Int):Th:=ts.getD (n - 1).toNat Th.none
def jR (cd:Int→Hd×List Pt) (t:Th):Bool:=decide (t.place=4) && decide ((cd t.card).1.kd=1)
def dh (n:Int):Bool:=decide (n=-1) || decide (n=-2)
def iy (cd:Int→Hd×List Pt) (ts:List Th) (fs:List Fe) (s:Sd) (n:Int):Bool :=
 if s.wh.wm=1 then decide (n=-1 - hoN fs s.th)
 else if s.wh.wm=2 then decide (n=-1 - (1 - hoN fs s.th))
 else if dh n then false
 else fI s.wh (decide (n=s.th)) (jR cd (thN ts n)) (fs.getD (n - 1).toNat Fe.none) (hoN fs s.th)
def ir (ts:List Th) (wh:Pt) (h:Hp):Bool :=
 if ¬wh.vb=19 then decide (h.vb=1)
 else if wh.wm=1∨wh.wm=2 then decide (h.vb=3)
 else decide (h.vb=6) && decide (wh.ct≤(thN ts h.on).m2)
def jk (cd:Int→Hd×List Pt) (ts:List Th) (fs:List Fe) (s:Sd) (h:Hp):Bool:=iy cd ts fs s h.on && ir ts s.wh h
def cG (h:Hp):Bool:=decide (h.vb=1) && decide (h.ct<1)
def gB (used:List Sd) (s:Sd):Bool:=used.any fun o=>decide (o.th=s.th) && decide (o.pl=s.pl)
def nG (cd:Int→Hd×List Pt) (ts:List Th) (fs:List Fe) (h:Hp) (used:List Sd) (s:Sd):Bool:=!gB used s && jk cd ts fs s h
def fl (cd:Int→Hd×List Pt) (ts:List Th) (fs:List Fe) (L:List Sd) (h:Hp) (used:List Sd):Option Sd:=L.find? (nG cd ts fs h used)
def ej (ts:List Th) (n:Int):Bool:=decide (1≤n) && (decide (n≤(ts.length:Int)) && decide ((thN ts n).place=4))
def bw (ts:List Th) (h:Hp):Bool :=
 if h.vb=1 then (dh h.on || ej ts h.on) && (decide (-9999≤h.ct) && decide (h.ct≤9999))
 else if h.vb=6 then ej ts h.on
 else if h.vb=3 then dh h.on
 else false
def nk (cd:Int→Hd×List Pt):Prop:=∀ c,∀ p∈(cd c).2,p.wn=6→16≤p.vb∧p.vb≤19∧(p.vb=16∨p.vb=19→1≤p.ct∧p.ct≤99)
open Go.Shelf
theorem Tab.one {n:Int} {cd:Int→Hd×List Pt} {ts:List Th} {fs:List Fe} {R:List Rw} {k:Int} {F:List Fe} {a:Se} (h:Tab n cd ts fs R) (ha:a∈dc R F k):bL R [a.s] []=some [a]:=rG (L:=[a]) (k:=k) h.nod (fun e he=>by
 rw[List.mem_singleton] at he;subst he;exact ha) (by simp)
theorem DL (k:Int):bv (my k) &&& ~~~255#16=0#16:=by
 rcases mZ k with h | h
 ·rcases h with rfl | rfl | rfl | rfl | rfl | rfl | rfl | rfl <;> decide
 ·rw[qJ h];decide
theorem tP {s:Int} (k:Int) (h:bP s=true):bP (nV s k)=true:=by
 rw[mW] at h ⊢
 unfold nV
 rw[vy,Bl]
 have h1:bv s &&& ~~~255#16=0#16:=by simpa using h
 have h2:=DL k
 have e:(bv s ||| bv (my k)) &&& ~~~255#16=0#16:=by
  apply BitVec.eq_of_getLsbD_eq
  intro i hi
  have a:(bv s &&& ~~~255#16).getLsbD i=false:=by rw[h1,BitVec.getLsbD_zero]
  have b:(bv (my k) &&& ~~~255#16).getLsbD i=false:=by rw[h2,BitVec.getLsbD_zero]
  rw[BitVec.getLsbD_and] at a b
  rw[BitVec.getLsbD_and,BitVec.getLsbD_or,BitVec.getLsbD_zero,Bool.and_or_distrib_right,a,b]
  rfl
 rw[e];rfl
theorem nJ {s:Int} (k:Int) (h:bP s=true):bP (gZ s k)=true:=by
 rw[mW] at h ⊢
 unfold gZ
 rw[iN,Bl]
 have h1:bv s &&& ~~~255#16=0#16:=by simpa using h
 have e:(bv s &&& ~~~bv (my k)) &&& ~~~255#16=0#16:=by
  apply BitVec.eq_of_getLsbD_eq
  intro i hi
  have a:(bv s &&& ~~~255#16).getLsbD i=false:=by rw[h1,BitVec.getLsbD_zero]
  rw[BitVec.getLsbD_and] at a
  rw[BitVec.getLsbD_and,BitVec.getLsbD_and,BitVec.getLsbD_zero,Bool.and_right_comm,a]
  rfl
 rw[e];rfl
theorem xN {f:Fe} {p:Pt} {ho:Int} (h1:fm f.ho=true) (h2:bP f.tr=true) (h3:fm ho=true):fm (gR f p ho).ho=true∧bP (gR f p ho).tr=true:=by
 unfold gR
 split
 ·exact⟨h3,h2⟩
 ·split
  ·exact⟨h1,h2⟩
  ·split
   ·exact⟨h1,tP _ h2⟩
   ·split
    ·exact⟨h1,nJ _ h2⟩
    ·split
     ·exact⟨h1,h2⟩
     ·split
      ·exact⟨h1,h2⟩
      ·exact⟨h1,h2⟩
theorem lJ {R:List Rw} {F:List Fe} {e:Se} (he:e.ro<F.length) (hg:sK F):sK (bp R F e):=fun f hf=>by
 unfold bp at hf
 obtain⟨i,hi,rfl⟩:=List.mem_map.1 hf
 rw[List.mem_range] at hi
 have q:=hg (F.getD i Fe.none) (by rw[aw hi];exact List.getElem_mem _)
 have q':=hg (F.getD e.ro Fe.none) (by rw[aw he];exact List.getElem_mem _)
 unfold iZ
 split
 ·exact xN q.1 q.2 q'.1
 ·exact q
theorem Tab.self {n:Int} {cd:Int→Hd×List Pt} {ts:List Th} {fs:List Fe} {R:List Rw} (h:Tab n cd ts fs R):dN fs R (au R fs)=fs:=by
 refine List.ext_getElem? fun j=>?_
 have a:=fR (fs:=fs) (F:=au R fs) h.nod h.nu R.length (Nat.le_refl _)
 by_cases q:∃ i,i<R.length∧(R.getD i Rw.none).nu=(j:Int)+1
 ·obtain⟨i,hi,e⟩:=q
  have e1:=a.1 i hi
  have hb:=h.nu _ (List.getElem_mem hi)
  rw[←aw (d:=Rw.none) hi,e] at hb
  have hj:j<fs.length:=by omega
  rw[e,show ((j:Int)+1 - 1).toNat=j by omega] at e1
  refine e1.trans ?_
  rw[aw (show i<(au R fs).length by rw[ei];exact hi)]
  unfold au
  rw[List.getElem_map,←aw (d:=Rw.none) hi,e,show ((j:Int)+1 - 1).toNat=j by omega,aw hj,List.getElem?_eq_getElem hj]
 ·exact a.2 j fun i hi e=>q ⟨i,hi,e⟩
theorem En {L:List Se} (h:L.Pairwise ki) {a b:Se} (ha:a∈L) (hb:b∈L) (h1:a.ro=b.ro) (h2:a.s.pl=b.s.pl):a=b:=by
 obtain⟨i,hi,rfl⟩:=List.getElem_of_mem ha
 obtain⟨j,hj,rfl⟩:=List.getElem_of_mem hb
 have q:=List.pairwise_iff_getElem.1 h
 rcases Nat.lt_trichotomy i j with z | z | z
 ·have:=q i j hi hj z
  unfold ki at this
  omega
 ·subst z;rfl
 ·have:=q j i hj hi z
  unfold ki at this
  omega
theorem zw {L L':List Se} (hp:L'.Perm L) (h':L'.Pairwise inS) (h:L.Pairwise ki):L'=L :=
 hp.eq_of_pairwise (fun a b ha hb h1 h2=>En h (hp.mem_iff.1 ha) hb (by unfold inS at h1 h2;omega) (by unfold inS at h1 h2;omega)) h' (h.imp (fun {a b} q=>by unfold ki at q;unfold inS;omega))
theorem Er {L:List Se} {p:Nat} (hp:p<L.length) (h:∀ i,i<p→(L.getD i Se.none).s≠(L.getD p Se.none).s):Lib.idxBy dQ (L.map Se.s) (L.getD p Se.none).s=(p:Int):=by
 have g:∀ j,j<L.length→(L.map Se.s)[j]?=some (L.getD j Se.none).s:=fun j hj=>by rw[List.getElem?_map,List.getElem?_eq_getElem hj,Option.map_some,aw hj]
 suffices H:∀ (l:List Sd) (x:Sd) (k i:Nat),l[k]?=some x→(∀ j y,j<k→l[j]?=some y→y≠x)→Lib.idxByFrom dQ x l i=((i+k:Nat):Int) by
  have:=H (L.map Se.s) (L.getD p Se.none).s p 0 (g p hp) (fun j y hj hy=>by
   rw[g j (by omega)] at hy
   cases hy
   exact h j hj)
  unfold Lib.idxBy
  rw[this,Nat.zero_add]
 intro l
 induction l with
 | nil=>intro x k i h1;simp at h1
 | cons z l ih =>
  intro x k i h1 h2
  cases k with
  | zero =>
   simp at h1
   subst h1
   unfold Lib.idxByFrom
   rw[if_pos (eO.2 rfl)]
   simp
  | succ k =>
   unfold Lib.idxByFrom
   rw[if_neg (fun q=>h2 0 z (by omega) rfl (eO.1 q).symm),ih x k (i+1) (by simpa using h1) (fun j y hj hy=>h2 (j+1) y (by omega) (by simpa using hy))]
   simp
   omega
theorem Fq {L:List Se} (h:L.Pairwise ki):L.Pairwise fun a b=>¬(a.ro=b.ro∧a.s.pl=b.s.pl):=h.imp (fun {a b} q=>by unfold ki at q;omega)
structure Onc (m:Int) (cd:Int→Hd×List Pt) (ts:List Th) (fs:List Fe) (R:List Rw) (k:Int) (X:List Fe) (L acc:List Se):Prop where
 base:Tab m cd ts fs R
 tab:Tab m cd ts X R
 lies:dN fs R (au R X)=X
 mem:∀ e∈L,e∈dc R (au R fs) k
 up:L.Pairwise ki
 all:mc R fs k=tt R L.length (au R X) L acc
theorem Onc.start {m:Int} {cd:Int→Hd×List Pt} {ts:List Th} {fs:List Fe} {R:List Rw} {k:Int} (h:Tab m cd ts fs R):Onc m cd ts fs R k fs (dc R (au R fs) k) []:=⟨h,h,h.self,fun _ h=>h,Fi _ _ _,rfl⟩
theorem Onc.list {m:Int} {cd:Int→Hd×List Pt} {ts:List Th} {fs:List Fe} {R:List Rw} {k:Int} {X:List Fe} {L acc:List Se} (h:Onc m cd ts fs R k X L acc):bL R (L.map Se.s) []=some L:=rG h.base.nod h.mem (Fq h.up)
theorem Onc.len {m:Int} {cd:Int→Hd×List Pt} {ts:List Th} {fs:List Fe} {R:List Rw} {k:Int} {X:List Fe} {L acc:List Se} (h:Onc m cd ts fs R k X L acc):X.length=fs.length:=by rw[←h.tab.len,h.base.len]
theorem Onc.lt {m:Int} {cd:Int→Hd×List Pt} {ts:List Th} {fs:List Fe} {R:List Rw} {k:Int} {X:List Fe} {L acc:List Se} (_:Onc m cd ts fs R k X L acc) (h0:0<L.length):dP R (au R X) L<L.length:=Bk (List.length_pos_iff.1 h0)
theorem Onc.step {m:Int} {cd:Int→Hd×List Pt} {ts:List Th} {fs:List Fe} {R:List Rw} {k:Int} {X:List Fe} {L acc:List Se} (h:Onc m cd ts fs R k X L acc) (h0:0<L.length):Onc m cd ts fs R k (dN X R (bp R (au R X) (L.getD (dP R (au R X) L) Se.none))) (L.eraseIdx (dP R (au R X) L)) (acc++[L.getD (dP R (au R X) L) Se.none]):=by
 obtain⟨p,hp⟩:∃ p,p=dP R (au R X) L:=⟨_,rfl⟩
 have hlt:=h.lt h0
 rw[←hp] at hlt ⊢
 have hx:L.getD p Se.none∈L:=by rw[aw hlt];exact List.getElem_mem _
 obtain⟨r1,_⟩:=j9 (h.mem _ hx)
 have hl:(bp R (au R X) (L.getD p Se.none)).length=R.length:=by rw[mj,ei]
 have hg:sK (bp R (au R X) (L.getD p Se.none)):=lJ (by rw[ei];exact r1) h.tab.good
 refine⟨h.base,h.tab.back hl hg,?_,fun e he=>h.mem e (List.mem_of_mem_eraseIdx he),h.up.sublist (List.eraseIdx_sublist _ _),?_⟩
 ·rw[h.tab.pick hl]
  exact(h.base.lay2 (au R X) _).symm.trans (by rw[h.lies])
 ·rw[h.tab.pick hl,h.all]
  obtain⟨n,hn⟩:∃ n,L.length=n+1:=⟨L.length - 1,by omega⟩
  rw[hn,zd (List.length_pos_iff.1 h0),List.length_eraseIdx_of_lt hlt,hn,←hp]
  rfl
theorem Onc.end {m:Int} {cd:Int→Hd×List Pt} {ts:List Th} {fs:List Fe} {R:List Rw} {k:Int} {X:List Fe} {acc:List Se} (h:Onc m cd ts fs R k X [] acc):dN fs R (mc R fs k).1=X:=by
 rw[h.all]
 exact h.lies
theorem Onc.next {m:Int} {cd:Int→Hd×List Pt} {ts:List Th} {fs:List Fe} {R:List Rw} {k:Int} {X:List Fe} {L acc:List Se} {w w':World} {e:Ending} (h:Onc m cd ts fs R k X L acc) (h0:0<L.length) (q:Ay w 0 m cd ts X (L.map Se.s) e w'):e=.returned (.tuple #[.int .i64 ((dP R (au R X) L:Nat):Int),.int .i64 0])∧w.grownBy w' none:=by
 obtain⟨p,e1,g,_,h1⟩:=q
 have h2:=h1 R L rfl h.tab.tab h.list
 rw[if_neg (List.length_pos_iff.1 h0)] at h2
 obtain⟨L',hp,hs,e2⟩:=h2
 have e3:=zw hp hs h.up
 subst e3
 have hlt:=h.lt h0
 rw[Er hlt (fun i hi e=>by
  have z:=List.pairwise_iff_getElem.1 h.up i _ (by omega) hlt hi
  rw[aw (show i<L'.length by omega),aw hlt] at e
  have hx:=h.mem _ (List.getElem_mem (show i<L'.length by omega))
  have hy:=h.mem _ (List.getElem_mem hlt)
  have f1:=lM h.base.nod hx
  have f2:=lM h.base.nod hy
  rw[e,f2] at f1
  have f3:=Option.some.inj f1
  rw[f3] at z
  unfold ki at z
  omega)] at e2
 rw[kJ h.tab.tab h.list,e2] at e1
 exact⟨e1,g⟩
theorem Onc.verb {m:Int} {cd:Int→Hd×List Pt} {ts:List Th} {fs:List Fe} {R:List Rw} {k:Int} {X:List Fe} {L acc:List Se} (h:Onc m cd ts fs R k X L acc) {x:Se} (hx:x∈L):lay x.s.wh.vb=k:=by
 obtain⟨_,_,_,_,_,_,_,q⟩:=j9 (h.mem x hx)
 exact q
end Go.Proofs.YthfjgpjcepmnmaaGreat
