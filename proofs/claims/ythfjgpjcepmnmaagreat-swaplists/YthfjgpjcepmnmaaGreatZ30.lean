/-
  Layers,plainly: the rows of a table,what they hang on;features picked and laid back;effects found,and listed.
  Layers,plainly: two Raises,neither of which depends on the other,in either order.
  Layers,plainly: each effect of a layer once,as it comes.
-/
import Derived.Test.YthfjgpjcepmnmaaGreatZ29
import Derived.Test.YthfjgpjcepmnmaaGreatZ19
namespace Go.Proofs.YthfjgpjcepmnmaaGreat
open Go.RowKit Go.Shelf
def tblR (cd:Int→Hd×List Pt):List (Th×Fe)→Nat→List Rw
 | [],_=>[]
 | (t,_) :: r,i=>if t.place=4 then ⟨(i:Int)+1,t.stamp,(cd t.card).1,(cd t.card).2⟩ :: tblR cd r (i+1) else tblR cd r (i+1)
theorem tblR_no {cd:Int→Hd×List Pt} {t:Th} {f:Fe} {r:List (Th×Fe)} {i:Nat} (h:¬t.place=4):tblR cd ((t,f) :: r) i=tblR cd r (i+1):=by
 rw[tblR,if_neg h]
theorem tblR_yes {cd:Int→Hd×List Pt} {t:Th} {f:Fe} {r:List (Th×Fe)} {i:Nat} (h:t.place=4):tblR cd ((t,f) :: r) i=⟨(i:Int)+1,t.stamp,(cd t.card).1,(cd t.card).2⟩ :: tblR cd r (i+1):=by
 rw[tblR,if_pos h]
theorem layF_rows {n:Int} {cd:Int→Hd×List Pt}:∀ (l:List (Th×Fe)) (i:Nat) (acc A:List Rw),layF n cd l i acc=some A→A=acc++tblR cd l i∧∀ x∈l,x.1.place=4→mayLieB x.1 x.2=true
 | [],i,acc,A,h=>by
  simp only[layF,Option.some.injEq] at h
  subst h
  exact⟨(List.append_nil _).symm,fun x hx=>by cases hx⟩
 | (t,f) :: r,i,acc,A,h=>by
  unfold layF at h
  split at h
  ·cases h
  ·split at h
   ·rename_i hp
    obtain⟨e,q⟩:=layF_rows r (i+1) acc A h
    refine⟨?_,fun x hx h4=>?_⟩
    ·rw[e,tblR_no hp]
    ·rcases List.mem_cons.1 hx with rfl | hx
     ·exact absurd h4 hp
     ·exact q x hx h4
   ·rename_i hp
    have hp':t.place=4:=Decidable.of_not_not hp
    split at h
    ·cases h
    ·rename_i hm
     split at h
     ·cases h
     ·obtain⟨e,q⟩:=layF_rows r (i+1) _ A h
      refine⟨?_,fun x hx h4=>?_⟩
      ·rw[e,tblR_yes hp',List.append_assoc,List.singleton_append]
      ·rcases List.mem_cons.1 hx with rfl | hx
       ·have h2:¬mayLieB t f=false:=fun q=>hm (Or.inr q)
        cases h3:mayLieB t f with
        | true=>rfl
        | false=>exact absurd h3 h2
       ·exact q x hx h4
theorem layF_same {n:Int} {cd:Int→Hd×List Pt}:∀ (l l':List (Th×Fe)) (i:Nat) (acc:List Rw),l.length=l'.length→(∀ (j:Nat) t f t' f',l[j]?=some (t,f)→l'[j]?=some (t',f')→t=t'∧(t.place=4→mayLieB t f=mayLieB t f'))→layF n cd l i acc=layF n cd l' i acc
 | [],[],_,_,_,_=>rfl
 | [],_ :: _,_,_,h,_=>by cases h
 | _ :: _,[],_,_,h,_=>by cases h
 | (t,f) :: r,(t',f') :: r',i,acc,h,q=>by
  obtain⟨rfl,q0⟩:=q 0 t f t' f' rfl rfl
  have q1:∀ (j:Nat) a b c d,r[j]?=some (a,b)→r'[j]?=some (c,d)→a=c∧(a.place=4→mayLieB a b=mayLieB a d):=fun j a b c d h1 h2=>q (j+1) a b c d h1 h2
  have hl:r.length=r'.length:=by simpa using h
  unfold layF
  rw[layF_same r r' (i+1) acc hl q1,layF_same r r' (i+1) _ hl q1]
  by_cases hp:t.place=4
  ·rw[q0 hp]
  ·simp only[if_pos hp]
theorem tbl_nu {cd:Int→Hd×List Pt}:∀ (l:List (Th×Fe)) (i:Nat),(∀ r∈tblR cd l i,(i:Int)<r.nu∧r.nu≤(i:Int)+l.length)∧(tblR cd l i).Pairwise fun a b=>a.nu<b.nu
 | [],i=>⟨fun r h=>(by cases h),List.Pairwise.nil⟩
 | (t,f) :: l,i=>by
  obtain⟨h1,h2⟩:=tbl_nu (cd:=cd) l (i+1)
  simp only[List.length_cons]
  by_cases hp:t.place=4
  ·rw[tblR_yes hp]
   refine⟨fun r hr=>?_,List.Pairwise.cons (fun r hr=>?_) h2⟩
   ·rcases List.mem_cons.1 hr with rfl | hr
    ·exact⟨by show (i:Int)<(i:Int)+1;omega,by show (i:Int)+1≤_;omega⟩
    ·have:=h1 r hr;omega
   ·have:=h1 r hr
    show (i:Int)+1<r.nu
    omega
  ·rw[tblR_no hp]
   exact⟨fun r hr=>by have:=h1 r hr;omega,h2⟩
theorem tbl_mem {cd:Int→Hd×List Pt}:∀ (l:List (Th×Fe)) (i j:Nat) (t:Th) (f:Fe),l[j]?=some (t,f)→t.place=4→∃ r∈tblR cd l i,r.nu=(i:Int)+j+1
 | [],i,j,t,f,h,_=>by simp at h
 | (t',f') :: l,i,0,t,f,h,h4=>by
  simp at h
  obtain⟨rfl,rfl⟩:=h
  rw[tblR_yes h4]
  exact⟨_,List.mem_cons_self,by show (i:Int)+1=_;omega⟩
 | (t',f') :: l,i,j+1,t,f,h,h4=>by
  obtain⟨r,hr,e⟩:=tbl_mem (cd:=cd) l (i+1) j t f (by simpa using h) h4
  refine⟨r,?_,by rw[e];omega⟩
  by_cases hp:t'.place=4
  ·rw[tblR_yes hp];exact List.mem_cons_of_mem _ hr
  ·rw[tblR_no hp];exact hr
theorem tbl_of {cd:Int→Hd×List Pt}:∀ (l:List (Th×Fe)) (i:Nat) (r:Rw),r∈tblR cd l i→∃ (j:Nat) (t:Th) (f:Fe),l[j]?=some (t,f)∧t.place=4∧r=⟨(i:Int)+j+1,t.stamp,(cd t.card).1,(cd t.card).2⟩
 | [],i,r,h=>by cases h
 | (t,f) :: l,i,r,h=>by
  by_cases hp:t.place=4
  ·rw[tblR_yes hp] at h
   rcases List.mem_cons.1 h with rfl | h
   ·exact⟨0,t,f,rfl,hp,by simp⟩
   ·obtain⟨j,a,b,h1,h2,h3⟩:=tbl_of l (i+1) r h
    exact⟨j+1,a,b,by simpa using h1,h2,by rw[h3];simp only[Rw.mk.injEq,and_true];omega⟩
  ·rw[tblR_no hp] at h
   obtain⟨j,a,b,h1,h2,h3⟩:=tbl_of l (i+1) r h
   exact⟨j+1,a,b,by simpa using h1,h2,by rw[h3];simp only[Rw.mk.injEq,and_true];omega⟩
structure Tab (n:Int) (cd:Int→Hd×List Pt) (ts:List Th) (fs:List Fe) (R:List Rw):Prop where
 tab:tabR n cd ts fs=some R
 len:ts.length=fs.length
 perm:R.Perm (tblR cd (ts.zip fs) 0)
 nod:(R.map Rw.nu).Nodup
 nu:∀ r∈R,1≤r.nu∧r.nu≤(fs.length:Int)
 may:∀ (j:Nat) t f,ts[j]?=some t→fs[j]?=some f→t.place=4→mayLieB t f=true
 few:R.length≤16
theorem layF_few {n:Int} {cd:Int→Hd×List Pt}:∀ (l:List (Th×Fe)) (i:Nat) (acc A:List Rw),acc.length≤16→layF n cd l i acc=some A→A.length≤16
 | [],i,acc,A,h0,h=>by
  simp only[layF,Option.some.injEq] at h
  subst h
  exact h0
 | (t,f) :: r,i,acc,A,h0,h=>by
  unfold layF at h
  split at h
  ·cases h
  ·split at h
   ·exact layF_few r (i+1) acc A h0 h
   ·split at h
    ·cases h
    ·rename_i hm
     split at h
     ·cases h
     ·exact layF_few r (i+1) _ A (by rw[List.length_append,List.length_singleton];have:¬acc.length=16:=fun q=>hm (Or.inl q);omega) h
theorem zip_get {ts:List Th} {fs:List Fe} {j:Nat} {t:Th} {f:Fe}:(ts.zip fs)[j]?=some (t,f)↔ts[j]?=some t∧fs[j]?=some f:=by
 rw[List.getElem?_zip_eq_some]
theorem Tab.of {n:Int} {cd:Int→Hd×List Pt} {ts:List Th} {fs:List Fe} {R:List Rw} (h:tabR n cd ts fs=some R):Tab n cd ts fs R:=by
 have h':=h
 unfold tabR at h
 split at h
 ·rename_i hl
  split at h
  ·rename_i acc ha
   split at h
   ·cases h
    obtain⟨e,q⟩:=layF_rows _ _ _ _ ha
    rw[List.nil_append] at e
    have hp:(sortR acc).Perm (tblR cd (ts.zip fs) 0):=by rw[←e];exact List.mergeSort_perm _ _
    obtain⟨n1,n2⟩:=tbl_nu (cd:=cd) (ts.zip fs) 0
    refine⟨h',hl,hp,?_,fun r hr=>?_,fun j t f a b c=>?_,?_⟩
    ·rw[(hp.map Rw.nu).nodup_iff]
     exact List.Pairwise.map _ (fun a b q=>by omega) n2
    ·have:=n1 r (hp.mem_iff.1 hr)
     rw[List.length_zip] at this
     omega
    ·exact q (t,f) (List.mem_of_getElem? (zip_get.2 ⟨a,b⟩)) c
    ·rw[hp.length_eq,←e];exact layF_few _ _ _ _ (Nat.zero_le _) ha
   ·cases h
  ·cases h
 ·cases h
theorem Tab.turn {n:Int} {cd:Int→Hd×List Pt} {ts:List Th} {fs fs':List Fe} {R:List Rw} (h:Tab n cd ts fs R) (hl:fs'.length=fs.length) (hm:∀ (j:Nat) t f,ts[j]?=some t→fs'[j]?=some f→t.place=4→mayLieB t f=true):Tab n cd ts fs' R:=by
 refine Tab.of ?_
 have e:layF n cd (ts.zip fs') 0 []=layF n cd (ts.zip fs) 0 []:=by
  refine layF_same _ _ _ _ (by rw[List.length_zip,List.length_zip,hl]) fun j t f t' f' a b=>?_
  obtain⟨a1,a2⟩:=zip_get.1 a
  obtain⟨b1,b2⟩:=zip_get.1 b
  rw[a1] at b1
  cases b1
  exact⟨rfl,fun h4=>by rw[hm j t f a1 a2 h4,h.may j t f' a1 b2 h4]⟩
 have:=h.tab
 unfold tabR at this ⊢
 rw[hl,e]
 exact this
theorem Tab.has {n:Int} {cd:Int→Hd×List Pt} {ts:List Th} {fs:List Fe} {R:List Rw} (h:Tab n cd ts fs R) {j:Nat} {t:Th} (ht:ts[j]?=some t) (h4:t.place=4):∃ i,i<R.length∧(R.getD i Rw.none).nu=(j:Int)+1:=by
 have hj:j<ts.length:=(List.getElem?_eq_some_iff.1 ht).1
 obtain⟨f,hf⟩:∃ f,fs[j]?=some f:=⟨_,List.getElem?_eq_getElem (by rw[←h.len];exact hj)⟩
 obtain⟨r,hr,e⟩:=tbl_mem (cd:=cd) (ts.zip fs) 0 j t f (zip_get.2 ⟨ht,hf⟩) h4
 obtain⟨i,hi,e2⟩:=List.getElem_of_mem (h.perm.mem_iff.2 hr)
 exact⟨i,hi,by rw[getD_in hi,e2,e];simp⟩
theorem Tab.from {n:Int} {cd:Int→Hd×List Pt} {ts:List Th} {fs:List Fe} {R:List Rw} (h:Tab n cd ts fs R) {r:Rw} (hr:r∈R):∃ (j:Nat) (t:Th),ts[j]?=some t∧t.place=4∧r.nu=(j:Int)+1∧r.st=t.stamp:=by
 obtain⟨j,t,f,a,b,c⟩:=tbl_of _ _ _ (h.perm.mem_iff.1 hr)
 exact⟨j,t,(zip_get.1 a).1,b,by rw[c];simp,by rw[c]⟩
theorem nu_inj {R:List Rw} (h:(R.map Rw.nu).Nodup) {i k:Nat} (hi:i<R.length) (hk:k<R.length) (e:(R.getD i Rw.none).nu=(R.getD k Rw.none).nu):i=k:=by
 rw[getD_in hi,getD_in hk] at e
 have h':=List.pairwise_iff_getElem.1 h
 rcases Nat.lt_trichotomy i k with q | q | q
 ·exact absurd (by rw[List.getElem_map,List.getElem_map];exact e) (h' i k (by simpa using hi) (by simpa using hk) q)
 ·exact q
 ·exact absurd (by rw[List.getElem_map,List.getElem_map];exact e.symm) (h' k i (by simpa using hk) (by simpa using hi) q)
theorem amgU_at {fs:List Fe} {R:List Rw} {F:List Fe} (hn:(R.map Rw.nu).Nodup) (hb:∀ r∈R,1≤r.nu∧r.nu≤(fs.length:Int)):∀ m,m≤R.length→(∀ i,i<m→(amgU fs R F m)[((R.getD i Rw.none).nu - 1).toNat]?=some (F.getD i Fe.none))∧∀ j:Nat,(∀ i,i<m→(R.getD i Rw.none).nu≠(j:Int)+1)→(amgU fs R F m)[j]?=fs[j]?
 | 0,_=>⟨fun i h=>absurd h (Nat.not_lt_zero _),fun j _=>rfl⟩
 | m+1,h=>by
  obtain⟨q1,q2⟩:=amgU_at (F:=F) hn hb m (by omega)
  have hbm:=hb _ (List.getElem_mem (show m<R.length by omega))
  rw[←getD_in (d:=Rw.none) (show m<R.length by omega)] at hbm
  rw[amgU_next]
  refine⟨fun i hi=>?_,fun j hj=>?_⟩
  ·by_cases e:i=m
   ·subst e
    rw[List.getElem?_set_self (by rw[amgU_len];omega)]
   ·have hbi:=hb _ (List.getElem_mem (show i<R.length by omega))
    rw[←getD_in (d:=Rw.none) (show i<R.length by omega)] at hbi
    have hne:(R.getD m Rw.none).nu≠(R.getD i Rw.none).nu:=fun q=>e (nu_inj hn (by omega) (by omega) q.symm)
    rw[List.getElem?_set_ne (by omega)]
    exact q1 i (by omega)
  ·rw[List.getElem?_set_ne (by have:=hj m (by omega);omega)]
   exact q2 j fun i hi=>hj i (by omega)
theorem amgL_len (fs:List Fe) (R:List Rw) (F:List Fe):(amgL fs R F).length=fs.length:=amgU_len fs R F _
theorem pickF_len (R:List Rw) (fs:List Fe):(pickF R fs).length=R.length:=List.length_map _
theorem Tab.pick {n:Int} {cd:Int→Hd×List Pt} {ts:List Th} {fs:List Fe} {R:List Rw} (h:Tab n cd ts fs R) {F:List Fe} (hF:F.length=R.length):pickF R (amgL fs R F)=F:=by
 refine List.ext_getElem? fun i=>?_
 by_cases hi:i<R.length
 ·unfold pickF
  rw[List.getElem?_map,List.getElem?_eq_getElem hi,Option.map_some,←getD_in (d:=Rw.none) hi]
  have:=(amgU_at (F:=F) h.nod h.nu R.length (Nat.le_refl _)).1 i hi
  unfold amgL
  rw[List.getD_eq_getElem?_getD,this,Option.getD_some,getD_in (show i<F.length by omega),List.getElem?_eq_getElem]
 ·rw[List.getElem?_eq_none (by rw[pickF_len];omega),List.getElem?_eq_none (by omega)]
theorem Tab.lay2 {n:Int} {cd:Int→Hd×List Pt} {ts:List Th} {fs:List Fe} {R:List Rw} (h:Tab n cd ts fs R) (A B:List Fe):amgL (amgL fs R A) R B=amgL fs R B:=by
 refine List.ext_getElem? fun j=>?_
 have a1:=amgU_at (fs:=amgL fs R A) (F:=B) h.nod (by rw[amgL_len];exact h.nu) R.length (Nat.le_refl _)
 have a2:=amgU_at (fs:=fs) (F:=B) h.nod h.nu R.length (Nat.le_refl _)
 have a3:=amgU_at (fs:=fs) (F:=A) h.nod h.nu R.length (Nat.le_refl _)
 by_cases q:∃ i,i<R.length∧(R.getD i Rw.none).nu=(j:Int)+1
 ·obtain⟨i,hi,e⟩:=q
  have e1:=a1.1 i hi
  have e2:=a2.1 i hi
  rw[e,show ((j:Int)+1 - 1).toNat=j by omega] at e1 e2
  exact e1.trans e2.symm
 ·have hq:∀ i,i<R.length→(R.getD i Rw.none).nu≠(j:Int)+1:=fun i hi e=>q ⟨i,hi,e⟩
  exact(a1.2 j hq).trans ((a3.2 j hq).trans (a2.2 j hq).symm)
def Goodf (F:List Fe):Prop:=∀ f∈F,isPl f.ho=true∧tCheck f.tr=true
theorem Tab.good {n:Int} {cd:Int→Hd×List Pt} {ts:List Th} {fs:List Fe} {R:List Rw} (h:Tab n cd ts fs R):Goodf (pickF R fs):=fun f hf=>by
 unfold pickF at hf
 obtain⟨r,hr,e⟩:=List.mem_map.1 hf
 obtain⟨j,t,a,b,c,_⟩:=h.from hr
 have hj:j<ts.length:=(List.getElem?_eq_some_iff.1 a).1
 have hj':j<fs.length:=by rw[←h.len];exact hj
 rw[c,show ((j:Int)+1 - 1).toNat=j by omega,getD_in hj'] at e
 have:=h.may j t _ a (List.getElem?_eq_getElem hj') b
 rw[e] at this
 unfold mayLieB at this
 simp only[Bool.and_eq_true] at this
 exact⟨this.1.2,this.2⟩
theorem Tab.back {n:Int} {cd:Int→Hd×List Pt} {ts:List Th} {fs:List Fe} {R:List Rw} (h:Tab n cd ts fs R) {F:List Fe} (hF:F.length=R.length) (hg:Goodf F):Tab n cd ts (amgL fs R F) R:=by
 refine h.turn (amgL_len _ _ _) fun j t f a b h4=>?_
 obtain⟨i,hi,e⟩:=h.has a h4
 have e1:=(amgU_at (F:=F) h.nod h.nu R.length (Nat.le_refl _)).1 i hi
 rw[e,show ((j:Int)+1 - 1).toNat=j by omega] at e1
 have b':(amgU fs R F R.length)[j]?=some f:=b
 rw[e1] at b'
 cases b'
 have hj:j<ts.length:=(List.getElem?_eq_some_iff.1 a).1
 have hs:=h.may j t _ a (List.getElem?_eq_getElem (by rw[←h.len];exact hj)) h4
 obtain⟨g1,g2⟩:=hg (F.getD i Fe.none) (by rw[getD_in (show i<F.length by omega)];exact List.getElem_mem _)
 unfold mayLieB at hs ⊢
 simp only[Bool.and_eq_true] at hs ⊢
 exact⟨⟨hs.1.1,g1⟩,g2⟩
theorem applyL_at {R:List Rw} {F:List Fe} {e:Se} {i:Nat} (h:i<F.length):(applyL R F e).getD i Fe.none=applyAt R F e i:=by
 unfold applyL
 rw[getD_in (by simpa using h)]
 simp
theorem eff_mem {R:List Rw} {F:List Fe} {k:Int} {e:Se} (h:e∈effL R F k):e.ro<R.length∧e.s.th=(R.getD e.ro Rw.none).nu∧∃ j,j<(R.getD e.ro Rw.none).ps.length∧e.s.pl=(j:Int)∧e.s.wh=(R.getD e.ro Rw.none).ps.getD j Pt.none∧e.s.wh.wn=5∧lay e.s.wh.vb=k:=by
 unfold effL effU at h
 rw[List.mem_flatMap] at h
 obtain⟨i,hi,h⟩:=h
 rw[List.mem_range] at hi
 unfold effR at h
 split at h
 ·cases h
 ·unfold effP at h
  rw[List.mem_filterMap] at h
  obtain⟨j,hj,h⟩:=h
  rw[List.mem_range] at hj
  split at h
  ·rename_i hc
   cases h
   exact⟨hi,rfl,j,hj,rfl,rfl,hc.1,hc.2⟩
  ·cases h
theorem samep_refl (p:Pt):samep p p=true:=by unfold samep;simp
theorem rowOf_is {R:List Rw} (h:(R.map Rw.nu).Nodup) {i:Nat} (hi:i<R.length):rowOf R (R.getD i Rw.none).nu=some i:=by
 unfold rowOf
 rw[List.findIdx?_eq_some_iff_getElem]
 refine⟨hi,by rw[getD_in hi];simp,fun j hj q=>?_⟩
 have e:(R.getD j Rw.none).nu=(R.getD i Rw.none).nu:=by rw[getD_in (show j<R.length by omega)];simpa using q
 exact absurd (nu_inj h (by omega) hi e) (by omega)
theorem find_eff {R:List Rw} {F:List Fe} {k:Int} {e:Se} (hn:(R.map Rw.nu).Nodup) (h:e∈effL R F k):findF R e.s=some e:=by
 obtain⟨h1,h2,j,h3,h4,h5,h6,h7⟩:=eff_mem h
 unfold findF
 rw[h2,rowOf_is hn h1]
 simp only
 rw[if_pos]
 unfold hasSt
 rw[h4,h6,show ((j:Int)).toNat=j by omega,←h5,samep_refl,decide_eq_true (show (0:Int)≤(j:Int) by omega),decide_eq_true (show (j:Int)<((R.getD e.ro Rw.none).ps.length:Int) by omega)]
 rfl
def befE (a b:Se):Prop:=a.ro<b.ro∨a.ro=b.ro∧a.s.pl<b.s.pl
theorem eff_up (R:List Rw) (F:List Fe) (k:Int):(effL R F k).Pairwise befE:=by
 unfold effL effU
 rw[List.flatMap_def,List.pairwise_flatten]
 refine⟨fun l hl=>?_,?_⟩
 ·obtain⟨i,hi,rfl⟩:=List.mem_map.1 hl
  unfold effR
  split
  ·exact List.Pairwise.nil
  ·unfold effP
   refine List.Pairwise.filterMap _ (R:=fun a b:Nat=>a<b) (fun a a' haa b hb b' hb'=>?_) List.pairwise_lt_range
   split at hb
   ·split at hb'
    ·cases hb;cases hb'
     exact Or.inr ⟨rfl,by show (a:Int)<(a':Int);omega⟩
    ·cases hb'
   ·cases hb
 ·refine List.Pairwise.map _ (R:=fun a b:Nat=>a<b) (fun a b hab=>?_) List.pairwise_lt_range
  intro x hx y hy
  have ro:∀ {i:Nat} {x:Se},x∈effR R F k i→x.ro=i:=fun {i x} h=>by
   unfold effR at h
   split at h
   ·cases h
   ·exact effP_ro h
  exact Or.inl (by rw[ro hx,ro hy];exact hab)
theorem clash_no {R:List Rw} {F:List Fe} {k:Int} {a b:Se} (hn:(R.map Rw.nu).Nodup) (ha:a∈effL R F k) (hb:b∈effL R F k) (h:¬(a.ro=b.ro∧a.s.pl=b.s.pl)):clashB a b=false:=by
 obtain⟨a1,a2,_,_,_,_,_,a7⟩:=eff_mem ha
 obtain⟨b1,b2,_,_,_,_,_,b7⟩:=eff_mem hb
 rw[clash_layer (fun q=>h ⟨?_,q.2⟩),a7,b7]
 ·simp
 ·exact nu_inj hn a1 b1 (by rw[←a2,←b2];exact q.1)
theorem listF_ok {R:List Rw}:∀ (L acc:List Se),(∀ e∈L,findF R e.s=some e)→(L.Pairwise fun a b=>clashB b a=false)→(∀ a∈acc,∀ b∈L,clashB b a=false)→listF R (L.map Se.s) acc=some (acc++L)
 | [],acc,_,_,_=>by simp[listF]
 | e :: L,acc,h1,h2,h3=>by
  rw[List.map_cons]
  unfold listF
  rw[h1 e List.mem_cons_self]
  simp only
  rw[if_pos (by
   unfold joinsB
   rw[List.all_eq_true]
   intro o ho
   rw[h3 o ho e List.mem_cons_self]
   rfl)]
  rw[List.pairwise_cons] at h2
  rw[listF_ok L (acc++[e]) (fun x hx=>h1 x (List.mem_cons_of_mem _ hx)) h2.2 (fun a ha b hb=>by
   rcases List.mem_append.1 ha with ha | ha
   ·exact h3 a ha b (List.mem_cons_of_mem _ hb)
   ·rw[List.mem_singleton] at ha
    subst ha
    exact h2.1 b hb),List.append_assoc,List.singleton_append]
theorem list_eff {R:List Rw} {F:List Fe} {k:Int} {L:List Se} (hn:(R.map Rw.nu).Nodup) (h:∀ e∈L,e∈effL R F k) (hp:L.Pairwise fun a b=>¬(a.ro=b.ro∧a.s.pl=b.s.pl)):listF R (L.map Se.s) []=some L:=by
 have:=listF_ok (R:=R) L [] (fun e he=>find_eff hn (h e he)) (List.Pairwise.imp_of_mem (fun {a b} ha hb q=>clash_no hn (h b hb) (h a ha) (fun z=>q ⟨z.1.symm,z.2.symm⟩)) hp) (fun a ha=>by cases ha)
 simpa using this
theorem Tab.one {n:Int} {cd:Int→Hd×List Pt} {ts:List Th} {fs:List Fe} {R:List Rw} {k:Int} {F:List Fe} {a:Se} (h:Tab n cd ts fs R) (ha:a∈effL R F k):listF R [a.s] []=some [a]:=list_eff (L:=[a]) (k:=k) h.nod (fun e he=>by
 rw[List.mem_singleton] at he;subst he;exact ha) (by simp)
theorem bit_low (k:Int):bv (tBit k) &&& ~~~255#16=0#16:=by
 rcases eight_or k with h | h
 ·rcases h with rfl | rfl | rfl | rfl | rfl | rfl | rfl | rfl <;> decide
 ·rw[tBit_no h];decide
theorem with_check {s:Int} (k:Int) (h:tCheck s=true):tCheck (tWith s k)=true:=by
 rw[check_bv] at h ⊢
 unfold tWith
 rw[bits_or,bv_nat]
 have h1:bv s &&& ~~~255#16=0#16:=by simpa using h
 have h2:=bit_low k
 have e:(bv s ||| bv (tBit k)) &&& ~~~255#16=0#16:=by
  apply BitVec.eq_of_getLsbD_eq
  intro i hi
  have a:(bv s &&& ~~~255#16).getLsbD i=false:=by rw[h1,BitVec.getLsbD_zero]
  have b:(bv (tBit k) &&& ~~~255#16).getLsbD i=false:=by rw[h2,BitVec.getLsbD_zero]
  rw[BitVec.getLsbD_and] at a b
  rw[BitVec.getLsbD_and,BitVec.getLsbD_or,BitVec.getLsbD_zero,Bool.and_or_distrib_right,a,b]
  rfl
 rw[e];rfl
theorem without_check {s:Int} (k:Int) (h:tCheck s=true):tCheck (tWithout s k)=true:=by
 rw[check_bv] at h ⊢
 unfold tWithout
 rw[bits_andNot,bv_nat]
 have h1:bv s &&& ~~~255#16=0#16:=by simpa using h
 have e:(bv s &&& ~~~bv (tBit k)) &&& ~~~255#16=0#16:=by
  apply BitVec.eq_of_getLsbD_eq
  intro i hi
  have a:(bv s &&& ~~~255#16).getLsbD i=false:=by rw[h1,BitVec.getLsbD_zero]
  rw[BitVec.getLsbD_and] at a
  rw[BitVec.getLsbD_and,BitVec.getLsbD_and,BitVec.getLsbD_zero,Bool.and_right_comm,a]
  rfl
 rw[e];rfl
theorem done_good {f:Fe} {p:Pt} {ho:Int} (h1:isPl f.ho=true) (h2:tCheck f.tr=true) (h3:isPl ho=true):isPl (doneF f p ho).ho=true∧tCheck (doneF f p ho).tr=true:=by
 unfold doneF
 split
 ·exact⟨h3,h2⟩
 ·split
  ·exact⟨h1,h2⟩
  ·split
   ·exact⟨h1,with_check _ h2⟩
   ·split
    ·exact⟨h1,without_check _ h2⟩
    ·split
     ·exact⟨h1,h2⟩
     ·split
      ·exact⟨h1,h2⟩
      ·exact⟨h1,h2⟩
theorem apply_good {R:List Rw} {F:List Fe} {e:Se} (he:e.ro<F.length) (hg:Goodf F):Goodf (applyL R F e):=fun f hf=>by
 unfold applyL at hf
 obtain⟨i,hi,rfl⟩:=List.mem_map.1 hf
 rw[List.mem_range] at hi
 have q:=hg (F.getD i Fe.none) (by rw[getD_in hi];exact List.getElem_mem _)
 have q':=hg (F.getD e.ro Fe.none) (by rw[getD_in he];exact List.getElem_mem _)
 unfold applyAt
 split
 ·exact done_good q.1 q.2 q'.1
 ·exact q
theorem Tab.self {n:Int} {cd:Int→Hd×List Pt} {ts:List Th} {fs:List Fe} {R:List Rw} (h:Tab n cd ts fs R):amgL fs R (pickF R fs)=fs:=by
 refine List.ext_getElem? fun j=>?_
 have a:=amgU_at (fs:=fs) (F:=pickF R fs) h.nod h.nu R.length (Nat.le_refl _)
 by_cases q:∃ i,i<R.length∧(R.getD i Rw.none).nu=(j:Int)+1
 ·obtain⟨i,hi,e⟩:=q
  have e1:=a.1 i hi
  have hb:=h.nu _ (List.getElem_mem hi)
  rw[←getD_in (d:=Rw.none) hi,e] at hb
  have hj:j<fs.length:=by omega
  rw[e,show ((j:Int)+1 - 1).toNat=j by omega] at e1
  refine e1.trans ?_
  rw[getD_in (show i<(pickF R fs).length by rw[pickF_len];exact hi)]
  unfold pickF
  rw[List.getElem_map,←getD_in (d:=Rw.none) hi,e,show ((j:Int)+1 - 1).toNat=j by omega,getD_in hj,List.getElem?_eq_getElem hj]
 ·exact a.2 j fun i hi e=>q ⟨i,hi,e⟩
theorem up_inj {L:List Se} (h:L.Pairwise befE) {a b:Se} (ha:a∈L) (hb:b∈L) (h1:a.ro=b.ro) (h2:a.s.pl=b.s.pl):a=b:=by
 obtain⟨i,hi,rfl⟩:=List.getElem_of_mem ha
 obtain⟨j,hj,rfl⟩:=List.getElem_of_mem hb
 have q:=List.pairwise_iff_getElem.1 h
 rcases Nat.lt_trichotomy i j with z | z | z
 ·have:=q i j hi hj z
  unfold befE at this
  omega
 ·subst z;rfl
 ·have:=q j i hj hi z
  unfold befE at this
  omega
theorem sort_one {L L':List Se} (hp:L'.Perm L) (h':L'.Pairwise inS) (h:L.Pairwise befE):L'=L :=
 hp.eq_of_pairwise (fun a b ha hb h1 h2=>up_inj h (hp.mem_iff.1 ha) hb (by unfold inS at h1 h2;omega) (by unfold inS at h1 h2;omega)) h' (h.imp (fun {a b} q=>by unfold befE at q;unfold inS;omega))
theorem idx_is {L:List Se} {p:Nat} (hp:p<L.length) (h:∀ i,i<p→(L.getD i Se.none).s≠(L.getD p Se.none).s):Lib.idxBy sames (L.map Se.s) (L.getD p Se.none).s=(p:Int):=by
 have g:∀ j,j<L.length→(L.map Se.s)[j]?=some (L.getD j Se.none).s:=fun j hj=>by rw[List.getElem?_map,List.getElem?_eq_getElem hj,Option.map_some,getD_in hj]
 suffices H:∀ (l:List Sd) (x:Sd) (k i:Nat),l[k]?=some x→(∀ j y,j<k→l[j]?=some y→y≠x)→Lib.idxByFrom sames x l i=((i+k:Nat):Int) by
  have:=H (L.map Se.s) (L.getD p Se.none).s p 0 (g p hp) (fun j y hj hy=>by
   rw[g j (by omega)] at hy
   cases hy
   exact h j hj)
  unfold Lib.idxBy
  rw[this,Nat.zero_add]
 intro l
 induction l with
 | nil=>intro x k i h1;simp at h1
 | cons z l ih =>
  intro x k i h1 h2
  cases k with
  | zero =>
   simp at h1
   subst h1
   unfold Lib.idxByFrom
   rw[if_pos (sames_iff.2 rfl)]
   simp
  | succ k =>
   unfold Lib.idxByFrom
   rw[if_neg (fun q=>h2 0 z (by omega) rfl (sames_iff.1 q).symm),ih x k (i+1) (by simpa using h1) (fun j y hj hy=>h2 (j+1) y (by omega) (by simpa using hy))]
   simp
   omega
theorem up_ne {L:List Se} (h:L.Pairwise befE):L.Pairwise fun a b=>¬(a.ro=b.ro∧a.s.pl=b.s.pl):=h.imp (fun {a b} q=>by unfold befE at q;omega)
structure Onc (m:Int) (cd:Int→Hd×List Pt) (ts:List Th) (fs:List Fe) (R:List Rw) (k:Int) (X:List Fe) (L acc:List Se):Prop where
 base:Tab m cd ts fs R
 tab:Tab m cd ts X R
 lies:amgL fs R (pickF R X)=X
 mem:∀ e∈L,e∈effL R (pickF R fs) k
 up:L.Pairwise befE
 all:allR R fs k=allL R L.length (pickF R X) L acc
theorem Onc.start {m:Int} {cd:Int→Hd×List Pt} {ts:List Th} {fs:List Fe} {R:List Rw} {k:Int} (h:Tab m cd ts fs R):Onc m cd ts fs R k fs (effL R (pickF R fs) k) []:=⟨h,h,h.self,fun _ h=>h,eff_up _ _ _,rfl⟩
theorem Onc.list {m:Int} {cd:Int→Hd×List Pt} {ts:List Th} {fs:List Fe} {R:List Rw} {k:Int} {X:List Fe} {L acc:List Se} (h:Onc m cd ts fs R k X L acc):listF R (L.map Se.s) []=some L:=list_eff h.base.nod h.mem (up_ne h.up)
theorem Onc.len {m:Int} {cd:Int→Hd×List Pt} {ts:List Th} {fs:List Fe} {R:List Rw} {k:Int} {X:List Fe} {L acc:List Se} (h:Onc m cd ts fs R k X L acc):X.length=fs.length:=by rw[←h.tab.len,h.base.len]
theorem Onc.lt {m:Int} {cd:Int→Hd×List Pt} {ts:List Th} {fs:List Fe} {R:List Rw} {k:Int} {X:List Fe} {L acc:List Se} (_:Onc m cd ts fs R k X L acc) (h0:0<L.length):nextN R (pickF R X) L<L.length:=nextN_lt (List.length_pos_iff.1 h0)
theorem Onc.step {m:Int} {cd:Int→Hd×List Pt} {ts:List Th} {fs:List Fe} {R:List Rw} {k:Int} {X:List Fe} {L acc:List Se} (h:Onc m cd ts fs R k X L acc) (h0:0<L.length):Onc m cd ts fs R k (amgL X R (applyL R (pickF R X) (L.getD (nextN R (pickF R X) L) Se.none))) (L.eraseIdx (nextN R (pickF R X) L)) (acc++[L.getD (nextN R (pickF R X) L) Se.none]):=by
 obtain⟨p,hp⟩:∃ p,p=nextN R (pickF R X) L:=⟨_,rfl⟩
 have hlt:=h.lt h0
 rw[←hp] at hlt ⊢
 have hx:L.getD p Se.none∈L:=by rw[getD_in hlt];exact List.getElem_mem _
 obtain⟨r1,_⟩:=eff_mem (h.mem _ hx)
 have hl:(applyL R (pickF R X) (L.getD p Se.none)).length=R.length:=by rw[applyL_len,pickF_len]
 have hg:Goodf (applyL R (pickF R X) (L.getD p Se.none)):=apply_good (by rw[pickF_len];exact r1) h.tab.good
 refine⟨h.base,h.tab.back hl hg,?_,fun e he=>h.mem e (List.mem_of_mem_eraseIdx he),h.up.sublist (List.eraseIdx_sublist _ _),?_⟩
 ·rw[h.tab.pick hl]
  exact(h.base.lay2 (pickF R X) _).symm.trans (by rw[h.lies])
 ·rw[h.tab.pick hl,h.all]
  obtain⟨n,hn⟩:∃ n,L.length=n+1:=⟨L.length - 1,by omega⟩
  rw[hn,allL_step (List.length_pos_iff.1 h0),List.length_eraseIdx_of_lt hlt,hn,←hp]
  rfl
theorem Onc.end {m:Int} {cd:Int→Hd×List Pt} {ts:List Th} {fs:List Fe} {R:List Rw} {k:Int} {X:List Fe} {acc:List Se} (h:Onc m cd ts fs R k X [] acc):amgL fs R (allR R fs k).1=X:=by
 rw[h.all]
 exact h.lies
theorem Onc.next {m:Int} {cd:Int→Hd×List Pt} {ts:List Th} {fs:List Fe} {R:List Rw} {k:Int} {X:List Fe} {L acc:List Se} {w w':World} {e:Ending} (h:Onc m cd ts fs R k X L acc) (h0:0<L.length) (q:NextPost w 0 m cd ts X (L.map Se.s) e w'):e=.returned (.tuple #[.int .i64 ((nextN R (pickF R X) L:Nat):Int),.int .i64 0])∧w.grownBy w' none:=by
 obtain⟨p,e1,g,_,h1⟩:=q
 have h2:=h1 R L rfl h.tab.tab h.list
 rw[if_neg (List.length_pos_iff.1 h0)] at h2
 obtain⟨L',hp,hs,e2⟩:=h2
 have e3:=sort_one hp hs h.up
 subst e3
 have hlt:=h.lt h0
 rw[idx_is hlt (fun i hi e=>by
  have z:=List.pairwise_iff_getElem.1 h.up i _ (by omega) hlt hi
  rw[getD_in (show i<L'.length by omega),getD_in hlt] at e
  have hx:=h.mem _ (List.getElem_mem (show i<L'.length by omega))
  have hy:=h.mem _ (List.getElem_mem hlt)
  have f1:=find_eff h.base.nod hx
  have f2:=find_eff h.base.nod hy
  rw[e,f2] at f1
  have f3:=Option.some.inj f1
  rw[f3] at z
  unfold befE at z
  omega)] at e2
 rw[lkE_ok h.tab.tab h.list,e2] at e1
 exact⟨e1,g⟩
theorem Onc.verb {m:Int} {cd:Int→Hd×List Pt} {ts:List Th} {fs:List Fe} {R:List Rw} {k:Int} {X:List Fe} {L acc:List Se} (h:Onc m cd ts fs R k X L acc) {x:Se} (hx:x∈L):lay x.s.wh.vb=k:=by
 obtain⟨_,_,_,_,_,_,_,q⟩:=eff_mem (h.mem x hx)
 exact q
end Go.Proofs.YthfjgpjcepmnmaaGreat
