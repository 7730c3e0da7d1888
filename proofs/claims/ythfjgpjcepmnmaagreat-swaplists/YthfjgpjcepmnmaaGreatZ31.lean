/-
  Layers,plainly: other stamps in the same order.
  Views,plainly: printed features,features behind each layer,with marks;the steps;what was about a thing.
  Layers,plainly: whom an effect is about,by their numbers;what becomes of each feature.
  Views,plainly: the same table under other numbers and stamps has the same features,by the same effects.
  The document's layers,plainly: when a book,things and features go together.
-/
import Derived.Test.YthfjgpjcepmnmaaGreatZ30
namespace Go.Proofs.YthfjgpjcepmnmaaGreat
open Go.RowKit Go.Shelf
def allA (r n:Int) (cd:Int→Hd×List Pt) (ts:List Th) (fs:List Fe) (k:Int):List Fe:=if bgE r n cd ts fs k=0 then (match tabR n cd ts fs with | some R=>amgL fs R (allR R fs k).1 | none=>[]) else []
def allS (r n:Int) (cd:Int→Hd×List Pt) (ts:List Th) (fs:List Fe) (k:Int):List Sd:=if bgE r n cd ts fs k=0 then (match tabR n cd ts fs with | some R=>(allR R fs k).2.map Se.s | none=>[]) else []
theorem AllPost.lists {w w':World} {r n:Int} {cd:Int→Hd×List Pt} {ts:List Th} {fs:List Fe} {k:Int} {e:Ending} (h:AllPost w r n cd ts fs k e w'):∃ p c p' c',e=.returned (.tuple #[.slice p (allA r n cd ts fs k).length c,.slice p' (allS r n cd ts fs k).length c',.int .i64 (bgE r n cd ts fs k)])∧w.grownBy w' none∧feR.At w' (.slice p (allA r n cd ts fs k).length c) (allA r n cd ts fs k)∧sdR.At w' (.slice p' (allS r n cd ts fs k).length c') (allS r n cd ts fs k):=by
 obtain⟨p,m,c,p',m',c',e1,g,z,q⟩:=h
 by_cases h0:bgE r n cd ts fs k=0
 ·obtain⟨hr,hk,R,hR⟩:=bgE_of h0
  obtain⟨o1,o2⟩:=q R hr hk hR
  have a1:allA r n cd ts fs k=amgL fs R (allR R fs k).1:=by unfold allA;rw[if_pos h0,hR]
  have a2:allS r n cd ts fs k=(allR R fs k).2.map Se.s:=by unfold allS;rw[if_pos h0,hR]
  rw[←a1] at o1
  rw[←a2] at o2
  obtain⟨x,y,f1⟩:=RecT.Own.form o1
  cases f1
  obtain⟨x',y',f2⟩:=RecT.Own.form o2
  cases f2
  exact⟨p,c,p',c',e1,g,RecT.Own.at o1,RecT.Own.at o2⟩
 ·obtain⟨rfl,rfl,rfl,rfl⟩:=z h0
  have a1:allA r n cd ts fs k=[]:=if_neg h0
  have a2:allS r n cd ts fs k=[]:=if_neg h0
  rw[a1,a2]
  exact⟨none,c,none,c',e1,g,⟨none,c,rfl,Nat.zero_le _,fun q=>absurd q (Nat.lt_irrefl 0)⟩,⟨none,c',rfl,Nat.zero_le _,fun q=>absurd q (Nat.lt_irrefl 0)⟩⟩
def prtT (pf:Th→Fe) (t:Th):Fe:=if t.place=4 then pf t else Fe.none
def prtF (pf:Th→Fe) (ts:List Th):List Fe:=ts.map (prtT pf)
theorem prtF_len (pf:Th→Fe) (ts:List Th):(prtF pf ts).length=ts.length:=List.length_map _
def mkE (me:Th→Int):List Th→Int
 | []=>0
 | t :: l=>if t.place=4∧me t≠0 then me t else mkE me l
theorem mkE_no {me:Th→Int} {t:Th} {l:List Th} (h:t.place=4) (h2:me t≠0):mkE me (t :: l)=me t:=by
 rw[mkE,if_pos ⟨h,h2⟩]
theorem mkE_yes {me:Th→Int} {t:Th} {l:List Th} (h:¬(t.place=4∧me t≠0)):mkE me (t :: l)=mkE me l:=by
 rw[mkE,if_neg h]
def nxtF (R:List Rw) (fs:List Fe) (k:Int):List Fe:=amgL fs R (allR R fs k).1
def clF (R:List Rw) (fs:List Fe):Nat→List Fe
 | 0=>fs
 | k+1=>nxtF R (clF R fs k) ((k:Int)+1)
def mkdT (mf:Fe→Th→Fe) (t:Th) (f:Fe):Fe:=if t.place=4 then mf f t else Fe.none
def mkdL (mf:Fe→Th→Fe) (ts:List Th) (fs:List Fe):List Fe:=List.zipWith (mkdT mf) ts fs
theorem nxtF_len (R:List Rw) (fs:List Fe) (k:Int):(nxtF R fs k).length=fs.length:=amgL_len _ _ _
theorem clF_len (R:List Rw) (fs:List Fe):∀ k,(clF R fs k).length=fs.length
 | 0=>rfl
 | k+1=>(nxtF_len _ _ _).trans (clF_len R fs k)
theorem Onc.run {m:Int} {cd:Int→Hd×List Pt} {ts:List Th} {fs:List Fe} {R:List Rw} {k:Int}:∀ (n:Nat) (X:List Fe) (L acc:List Se),L.length=n→Onc m cd ts fs R k X L acc→∃ Y B,Onc m cd ts fs R k Y [] B
 | 0,X,L,acc,h,q=>by
  have:L=[]:=List.length_eq_zero_iff.1 h
  subst this
  exact⟨X,acc,q⟩
 | n+1,X,L,acc,h,q=>Onc.run n _ _ _ (by rw[List.length_eraseIdx_of_lt (q.lt (by omega))];omega) (q.step (by omega))
theorem Tab.next {m:Int} {cd:Int→Hd×List Pt} {ts:List Th} {fs:List Fe} {R:List Rw} (h:Tab m cd ts fs R) (k:Int):Tab m cd ts (nxtF R fs k) R:=by
 obtain⟨Y,B,q⟩:=Onc.run (k:=k) _ _ _ _ rfl (Onc.start h)
 unfold nxtF
 rw[q.end]
 exact q.tab
theorem Tab.cl {m:Int} {cd:Int→Hd×List Pt} {ts:List Th} {fs:List Fe} {R:List Rw} (h:Tab m cd ts fs R):∀ k,Tab m cd ts (clF R fs k) R
 | 0=>h
 | k+1=>(h.cl k).next _
theorem bgE_any {r n:Int} {cd:Int→Hd×List Pt} {ts:List Th} {fs:List Fe} {k:Int} (h:bgE r n cd ts fs k=0):r=0∧∃ R,Tab n cd ts fs R:=by
 obtain⟨h1,-,R,h2⟩:=bgE_of h
 exact⟨h1,R,Tab.of h2⟩
def vkE (r n:Int) (cd:Int→Hd×List Pt) (ts:List Th) (fs:List Fe) (me:Th→Int):Int:=if bgE r n cd ts fs 5=0 then mkE me ts else bgE r n cd ts fs 5
theorem vkE_no {r n:Int} {cd:Int→Hd×List Pt} {ts:List Th} {fs:List Fe} {me:Th→Int} (h:¬bgE r n cd ts fs 5=0):vkE r n cd ts fs me=bgE r n cd ts fs 5:=if_neg h
theorem vkE_yes {r n:Int} {cd:Int→Hd×List Pt} {ts:List Th} {fs:List Fe} {me:Th→Int} (h:bgE r n cd ts fs 5=0):vkE r n cd ts fs me=mkE me ts:=if_pos h
theorem vkE_of {r n:Int} {cd:Int→Hd×List Pt} {ts:List Th} {fs:List Fe} {me:Th→Int} (h:vkE r n cd ts fs me=0):r=0∧(∃ R,Tab n cd ts fs R)∧mkE me ts=0:=by
 by_cases q:bgE r n cd ts fs 5=0
 ·obtain⟨a,b⟩:=bgE_any q
  exact⟨a,b,by rw[←vkE_yes q];exact h⟩
 ·rw[vkE_no q] at h
  exact absurd h q
def vqE (e:Int) (b:Bool) (x:Int):Int:=if e=0 then (if b then 0 else x) else e
def bhL (R:List Rw) (mf:Fe→Th→Fe) (ts:List Th) (fs:List Fe) (k:Int):List Fe:=if k=6 then mkdL mf ts (clF R fs 5) else clF R fs k.toNat
def vBh (r n:Int) (cd:Int→Hd×List Pt) (ts:List Th) (pf:Th→Fe) (mf:Fe→Th→Fe) (me:Th→Int) (k:Int):List Fe:=if vqE (vkE r n cd ts (prtF pf (ts.take 2048)) me) (decide (0≤k∧k≤6)) 2=0 then (match tabR n cd ts (prtF pf ts) with | some R=>bhL R mf ts (prtF pf ts) k | none=>[]) else []
theorem vqE_no {e x:Int} {b:Bool} (h:e≠0):vqE e b x=e:=if_neg h
def stOf (ts:List Th) (x:Int):Int:=(ts.getD (x - 1).toNat Th.none).stamp
theorem Tab.up {n:Int} {cd:Int→Hd×List Pt} {ts:List Th} {fs:List Fe} {R:List Rw} (h:Tab n cd ts fs R):R.Pairwise fun a b=>a.st<b.st:=by
 have h':=h.tab
 unfold tabR at h'
 split at h'
 ·split at h'
  ·split at h'
   ·rename_i hd
    cases h'
    have:=dif_up (stamps_up (sortR_up _)) hd
    unfold stampsR at this
    rw[List.pairwise_map] at this
    exact this
   ·cases h'
  ·cases h'
 ·cases h'
theorem about_at {R:List Rw} {F:List Fe} {a:Se} {i:Nat} (hi:i<R.length):(aboutL R F a).getD i false=isAbB R F a i:=by
 unfold aboutL aboutU
 rw[getD_in (by simpa using hi)]
 simp
theorem num_mem {R:List Rw} {F:List Fe} {a:Se} {x:Int}:x∈numL R (aboutL R F a)↔∃ i,i<R.length∧isAbB R F a i=true∧(R.getD i Rw.none).nu=x:=by
 unfold numL numU
 rw[List.mem_filterMap]
 constructor
 ·rintro⟨i,hi,e⟩
  rw[List.mem_range] at hi
  rw[about_at hi] at e
  split at e
  ·rename_i hb
   cases e
   exact⟨i,hi,hb,rfl⟩
  ·cases e
 ·rintro⟨i,hi,hb,rfl⟩
  exact⟨i,List.mem_range.2 hi,by rw[about_at hi,if_pos hb]⟩
theorem Tab.thing {n:Int} {cd:Int→Hd×List Pt} {ts:List Th} {fs:List Fe} {R:List Rw} (h:Tab n cd ts fs R) {i:Nat} (hi:i<R.length):(ts.getD ((R.getD i Rw.none).nu - 1).toNat Th.none).place=4∧stOf ts (R.getD i Rw.none).nu=(R.getD i Rw.none).st∧0<(R.getD i Rw.none).st∧1≤(R.getD i Rw.none).nu∧(R.getD i Rw.none).nu≤(fs.length:Int):=by
 have hr:R.getD i Rw.none∈R:=by rw[getD_in hi];exact List.getElem_mem _
 obtain⟨j,t,ht,h4,hn,hs⟩:=h.from hr
 have hj:j<ts.length:=(List.getElem?_eq_some_iff.1 ht).1
 have e:ts.getD j Th.none=t:=by rw[List.getD_eq_getElem?_getD,ht];rfl
 have hm:=h.may j t _ ht (List.getElem?_eq_getElem (by rw[←h.len];exact hj)) h4
 unfold mayLieB at hm
 simp only[Bool.and_eq_true,decide_eq_true_eq] at hm
 unfold stOf
 rw[hn,show ((j:Int)+1 - 1).toNat=j by omega,e,hs]
 exact⟨h4,rfl,hm.1.1,by omega,by rw[←h.len];omega⟩
theorem Tab.num {n:Int} {cd:Int→Hd×List Pt} {ts:List Th} {fs:List Fe} {R:List Rw} {F:List Fe} {a:Se} (h:Tab n cd ts fs R) {x:Int} (hx:x∈numL R (aboutL R F a)):1≤x∧x≤(fs.length:Int)∧(ts.getD (x - 1).toNat Th.none).place=4∧0<stOf ts x:=by
 obtain⟨i,hi,_,rfl⟩:=num_mem.1 hx
 obtain⟨a1,a2,a3,a4,a5⟩:=h.thing hi
 exact⟨a4,a5,a1,by rw[a2];exact a3⟩
theorem Tab.rise {n:Int} {cd:Int→Hd×List Pt} {ts:List Th} {fs:List Fe} {R:List Rw} (F:List Fe) (a:Se) (h:Tab n cd ts fs R):(numL R (aboutL R F a)).Pairwise fun x y=>stOf ts x<stOf ts y:=by
 unfold numL numU
 refine List.Pairwise.filterMap _ (R:=fun i j:Nat=>i<R.length→j<R.length→i<j) ?_ ?_
 ·intro i j hij x hx y hy
  by_cases hi:i<R.length
  ·by_cases hj:j<R.length
   ·split at hx
    ·split at hy
     ·cases hx;cases hy
      have hlt:=hij hi hj
      rw[(h.thing hi).2.1,(h.thing hj).2.1,getD_in hi,getD_in hj]
      exact List.pairwise_iff_getElem.1 h.up i j hi hj hlt
     ·cases hy
    ·cases hx
   ·split at hy
    ·rename_i hb
     rw[List.getD_eq_getElem?_getD,List.getElem?_eq_none (by unfold aboutL aboutU;simp;omega)] at hb
     cases hb
    ·cases hy
  ·split at hx
   ·rename_i hb
    rw[List.getD_eq_getElem?_getD,List.getElem?_eq_none (by unfold aboutL aboutU;simp;omega)] at hb
    cases hb
   ·cases hx
 ·exact List.pairwise_lt_range.imp (fun {i j} q _ _=>q)
theorem getD_map {α β:Type} (f:α→β) (l:List α) (i:Nat) (d:α) (e:β) (h:i<l.length):(l.map f).getD i e=f (l.getD i d):=by
 rw[List.getD_eq_getElem?_getD,List.getD_eq_getElem?_getD,List.getElem?_map,List.getElem?_eq_getElem h]
 rfl
theorem layF_all {n:Int} {cd:Int→Hd×List Pt}:∀ (l:List (Th×Fe)) (i:Nat) (acc:List Rw),(∀ x∈l,mayBeB n x.1=true∧(x.1.place=4→mayLieB x.1 x.2=true∧(cd x.1.card).1.kd≠2))→acc.length+(tblR cd l i).length≤16→layF n cd l i acc=some (acc++tblR cd l i)
 | [],i,acc,_,_=>by simp[layF,tblR]
 | (t,f) :: r,i,acc,h,hl=>by
  obtain⟨h1,h2⟩:=h (t,f) List.mem_cons_self
  have hr:∀ x∈r,mayBeB n x.1=true∧(x.1.place=4→mayLieB x.1 x.2=true∧(cd x.1.card).1.kd≠2):=fun x hx=>h x (List.mem_cons_of_mem _ hx)
  unfold layF
  rw[if_neg (by simp only at h1;rw[h1];simp)]
  by_cases hp:t.place=4
  ·obtain⟨h3,h4⟩:=h2 hp
   rw[tblR_yes hp] at hl ⊢
   rw[List.length_cons] at hl
   rw[if_neg (by simp[hp]),if_neg (by simp only at h3;rw[h3];simp;omega),if_neg h4,layF_all r (i+1) _ hr (by rw[List.length_append,List.length_singleton];omega),List.append_assoc,List.singleton_append]
  ·rw[tblR_no hp] at hl ⊢
   rw[if_pos hp,layF_all r (i+1) acc hr hl]
theorem layF_may {n:Int} {cd:Int→Hd×List Pt}:∀ (l:List (Th×Fe)) (i:Nat) (acc A:List Rw),layF n cd l i acc=some A→∀ x∈l,mayBeB n x.1=true∧(x.1.place=4→mayLieB x.1 x.2=true∧(cd x.1.card).1.kd≠2)
 | [],i,acc,A,h,x,hx=>by cases hx
 | (t,f) :: r,i,acc,A,h,x,hx=>by
  unfold layF at h
  split at h
  ·cases h
  ·rename_i h1
   have h1':mayBeB n t=true:=by cases q:mayBeB n t with | true=>rfl | false=>exact absurd q h1
   split at h
   ·rename_i hp
    rcases List.mem_cons.1 hx with rfl | hx
    ·exact⟨h1',fun z=>absurd z hp⟩
    ·exact layF_may r _ _ A h x hx
   ·split at h
    ·cases h
    ·rename_i hm
     split at h
     ·cases h
     ·rename_i hk
      rcases List.mem_cons.1 hx with rfl | hx
      ·refine⟨h1',fun _=>⟨?_,hk⟩⟩
       cases q:mayLieB t f with
       | true=>rfl
       | false=>exact absurd (Or.inr q) hm
      ·exact layF_may r _ _ A h x hx
theorem Tab.mays {n:Int} {cd:Int→Hd×List Pt} {ts:List Th} {fs:List Fe} {R:List Rw} (h:Tab n cd ts fs R) {j:Nat} {t:Th} {f:Fe} (ht:ts[j]?=some t) (hf:fs[j]?=some f):mayBeB n t=true∧(t.place=4→mayLieB t f=true∧(cd t.card).1.kd≠2):=by
 have:=h.tab
 unfold tabR at this
 split at this
 ·split at this
  ·rename_i acc ha
   exact layF_may _ _ _ _ ha (t,f) (List.mem_of_getElem? (zip_get.2 ⟨ht,hf⟩))
  ·cases this
 ·cases this
theorem dif_strict:∀ l:List Int,(l.Pairwise fun a b=>a<b)→dif l=true
 | [],_=>rfl
 | [a],_=>rfl
 | a :: b :: l,h=>by
  have h':=List.pairwise_cons.1 h
  have hab:=h'.1 b List.mem_cons_self
  unfold dif
  rw[dif_strict (b :: l) h'.2]
  simp only[Bool.and_true,decide_eq_true_eq]
  omega
theorem tbl_mem' {cd:Int→Hd×List Pt}:∀ (l:List (Th×Fe)) (i j:Nat) (t:Th) (f:Fe),l[j]?=some (t,f)→t.place=4→(⟨(i:Int)+j+1,t.stamp,(cd t.card).1,(cd t.card).2⟩:Rw)∈tblR cd l i
 | [],i,j,t,f,h,_=>by simp at h
 | (t',f') :: l,i,0,t,f,h,h4=>by
  simp at h
  obtain⟨rfl,rfl⟩:=h
  rw[tblR_yes h4]
  exact List.mem_cons.2 (Or.inl (by simp))
 | (t',f') :: l,i,j+1,t,f,h,h4=>by
  have:=tbl_mem' (cd:=cd) l (i+1) j t f (by simpa using h) h4
  have e:(((i+1:Nat):Int)+j+1)=((i:Int)+((j+1:Nat):Int)+1):=by omega
  rw[e] at this
  by_cases hp:t'.place=4
  ·rw[tblR_yes hp];exact List.mem_cons_of_mem _ this
  ·rw[tblR_no hp];exact this
theorem Tab.row {n:Int} {cd:Int→Hd×List Pt} {ts:List Th} {fs:List Fe} {R:List Rw} (h:Tab n cd ts fs R) {r:Rw} (hr:r∈R):∃ (j:Nat) (t:Th),ts[j]?=some t∧t.place=4∧r=⟨(j:Int)+1,t.stamp,(cd t.card).1,(cd t.card).2⟩:=by
 obtain⟨j,t,f,a,b,c⟩:=tbl_of _ _ _ (h.perm.mem_iff.1 hr)
 exact⟨j,t,(zip_get.1 a).1,b,by rw[c];simp⟩
theorem Tab.row_in {n:Int} {cd:Int→Hd×List Pt} {ts:List Th} {fs:List Fe} {R:List Rw} (h:Tab n cd ts fs R) {j:Nat} {t:Th} (ht:ts[j]?=some t) (h4:t.place=4):(⟨(j:Int)+1,t.stamp,(cd t.card).1,(cd t.card).2⟩:Rw)∈R:=by
 have hj:j<ts.length:=(List.getElem?_eq_some_iff.1 ht).1
 have:=tbl_mem' (cd:=cd) (ts.zip fs) 0 j t _ (zip_get.2 ⟨ht,List.getElem?_eq_getElem (show j<fs.length by rw[←h.len];exact hj)⟩) h4
 rw[show (((0:Nat):Int)+j+1)=(j:Int)+1 by omega] at this
 exact h.perm.mem_iff.2 this
theorem st_inj {Q:List Rw} (h:Q.Pairwise fun a b=>a.st<b.st) {a b:Rw} (ha:a∈Q) (hb:b∈Q) (e:a.st=b.st):a=b:=by
 obtain⟨i,hi,rfl⟩:=List.getElem_of_mem ha
 obtain⟨j,hj,rfl⟩:=List.getElem_of_mem hb
 have q:=List.pairwise_iff_getElem.1 h
 rcases Nat.lt_trichotomy i j with z | z | z
 ·have:=q i j hi hj z;omega
 ·subst z;rfl
 ·have:=q j i hj hi z;omega
theorem toN (j:Nat):((j:Int)+1 - 1).toNat=j:=by omega
def onC (ts:List Th) (i:Nat):Nat:=((ts.take i).filter fun t=>decide (t.place=4)).length
theorem onC_on {ts:List Th} {i:Nat} {t:Th} (h:ts[i]?=some t) (h4:t.place=4):onC ts (i+1)=onC ts i+1:=by
 unfold onC
 rw[List.take_add_one,h,List.filter_append,List.length_append]
 simp[h4]
theorem onC_off {ts:List Th} {i:Nat} {t:Th} (h:ts[i]?=some t) (h4:¬t.place=4):onC ts (i+1)=onC ts i:=by
 unfold onC
 rw[List.take_add_one,h,List.filter_append,List.length_append]
 simp[h4]
theorem onC_le (ts:List Th) (i:Nat):onC ts i≤onC ts ts.length:=by
 unfold onC
 rw[List.take_length]
 exact((List.take_sublist i ts).filter _).length_le
theorem tbl_count {cd:Int→Hd×List Pt}:∀ (ts:List Th) (fs:List Fe) (i:Nat),ts.length=fs.length→(tblR cd (ts.zip fs) i).length=(ts.filter fun t=>decide (t.place=4)).length
 | [],[],i,_=>rfl
 | t :: ts,f :: fs,i,h=>by
  rw[List.zip_cons_cons]
  by_cases q:t.place=4
  ·rw[tblR_yes q,List.length_cons,tbl_count ts fs (i+1) (by simpa using h)]
   simp[q]
  ·rw[tblR_no q,tbl_count ts fs (i+1) (by simpa using h)]
   simp[q]
def tOk (n:Int) (cd:Int→Hd×List Pt) (t:Th) (f:Fe):Prop:=mayBeB n t=true∧(t.place=4→mayLieB t f=true∧(cd t.card).1.kd≠2)
structure TgU (n:Int) (cd:Int→Hd×List Pt) (ts:List Th) (fs:List Fe) (i:Nat):Prop where
 ok:∀ (j:Nat) t f,j<i→ts[j]?=some t→fs[j]?=some f→tOk n cd t f
 few:onC ts i≤16
 dif:∀ (j k:Nat) t s,j<k→k<i→ts[j]?=some t→ts[k]?=some s→t.place=4→s.place=4→t.stamp≠s.stamp
theorem TgU.start (n:Int) (cd:Int→Hd×List Pt) (ts:List Th) (fs:List Fe):TgU n cd ts fs 0:=⟨fun _ _ _ h=>absurd h (Nat.not_lt_zero _),by simp[onC],fun _ _ _ _ _ h=>absurd h (Nat.not_lt_zero _)⟩
theorem TgU.off {n:Int} {cd:Int→Hd×List Pt} {ts:List Th} {fs:List Fe} {i:Nat} {t:Th} (h:TgU n cd ts fs i) (ht:ts[i]?=some t) (h4:¬t.place=4) (hm:mayBeB n t=true):TgU n cd ts fs (i+1):=by
 refine⟨fun j s f hj hs hf=>?_,by rw[onC_off ht h4];exact h.few,fun j k s u hjk hk hs hu p4 q4=>?_⟩
 ·by_cases e:j=i
  ·subst e
   rw[ht] at hs
   cases hs
   exact⟨hm,fun z=>absurd z h4⟩
  ·exact h.ok j s f (by omega) hs hf
 ·by_cases e:k=i
  ·subst e
   rw[ht] at hu
   cases hu
   exact absurd q4 h4
  ·exact h.dif j k s u hjk (by omega) hs hu p4 q4
theorem TgU.on {n:Int} {cd:Int→Hd×List Pt} {ts:List Th} {fs:List Fe} {i:Nat} {t:Th} {f:Fe} (h:TgU n cd ts fs i) (ht:ts[i]?=some t) (hf:fs[i]?=some f) (hm:mayBeB n t=true) (hl:mayLieB t f=true) (hk:(cd t.card).1.kd≠2) (hc:onC ts (i+1)≤16) (hd:∀ (j:Nat) s,j<i→ts[j]?=some s→s.place=4→s.stamp≠t.stamp):TgU n cd ts fs (i+1):=by
 refine⟨fun j s g hj hs hg=>?_,hc,fun j k s u hjk hk' hs hu p4 q4=>?_⟩
 ·by_cases e:j=i
  ·subst e
   rw[ht] at hs
   rw[hf] at hg
   cases hs
   cases hg
   exact⟨hm,fun _=>⟨hl,hk⟩⟩
  ·exact h.ok j s g (by omega) hs hg
 ·by_cases e:k=i
  ·subst e
   rw[ht] at hu
   cases hu
   exact hd j s hjk hs p4
  ·exact h.dif j k s u hjk (by omega) hs hu p4 q4
theorem TgU.done {n:Int} {cd:Int→Hd×List Pt} {ts:List Th} {fs:List Fe} (h:TgU n cd ts fs ts.length) (hl:ts.length=fs.length):∃ R,tabR n cd ts fs=some R:=by
 have hlay:layF n cd (ts.zip fs) 0 []=some (tblR cd (ts.zip fs) 0):=by
  rw[layF_all _ _ _ (fun x hx=>?_) (by
   rw[tbl_count ts fs 0 hl]
   have:=h.few
   unfold onC at this
   rw[List.take_length] at this
   simpa using this)]
  ·rfl
  ·obtain⟨j,hj⟩:=List.getElem?_of_mem hx
   obtain⟨a,b⟩:=zip_get (t:=x.1) (f:=x.2) |>.1 hj
   exact h.ok j _ _ (List.getElem?_eq_some_iff.1 a).1 a b
 have hne:(tblR cd (ts.zip fs) 0).Pairwise fun a b=>a.st≠b.st:=by
  refine List.Pairwise.imp_of_mem (fun {a b} ha hb q=>?_) (tbl_nu (cd:=cd) (ts.zip fs) 0).2
  obtain⟨j,t,f,a1,a2,a3⟩:=tbl_of _ _ _ ha
  obtain⟨k,s,g,b1,b2,b3⟩:=tbl_of _ _ _ hb
  rw[a3,b3] at q ⊢
  simp only at q ⊢
  exact h.dif j k t s (by omega) (List.getElem?_eq_some_iff.1 (zip_get.1 b1).1).1 (zip_get.1 a1).1 (zip_get.1 b1).1 a2 b2
 have hp:(sortR (tblR cd (ts.zip fs) 0)).Perm (tblR cd (ts.zip fs) 0):=List.mergeSort_perm _ _
 have h1:(sortR (tblR cd (ts.zip fs) 0)).Pairwise fun a b=>a.st≤b.st:=(List.pairwise_mergeSort (le:=fun a b:Rw=>decide (a.st≤b.st)) (fun a b c h1 h2=>by simp only[decide_eq_true_eq] at *;omega) (fun a b=>by simp only[Bool.or_eq_true,decide_eq_true_eq];omega) _).imp (fun {a b} q=>by simpa using q)
 have h2:(sortR (tblR cd (ts.zip fs) 0)).Pairwise fun a b=>a.st≠b.st:=(hp.pairwise_iff (fun {a b} q e=>q e.symm)).2 hne
 refine⟨sortR (tblR cd (ts.zip fs) 0),?_⟩
 unfold tabR
 rw[if_pos hl,hlay]
 exact if_pos (dif_strict _ (List.pairwise_map.2 ((h1.and h2).imp (fun {a b} q=>by omega))))
section
variable {n:Int} {cd:Int→Hd×List Pt} {ts:List Th} {fs:List Fe}
theorem tab_noT (h:∀ R,¬Tab n cd ts fs R):tabR n cd ts fs=none:=by
 cases q:tabR n cd ts fs with
 | none=>rfl
 | some R=>exact absurd (Tab.of q) (h R)
theorem tog_len (h:¬ts.length=fs.length):tabR n cd ts fs=none:=tab_noT fun _ q=>h q.len
theorem tog_be {i:Nat} {t:Th} (ht:ts[i]?=some t) (h:mayBeB n t=false):tabR n cd ts fs=none:=tab_noT fun R q=>by
 have:=(q.mays ht (List.getElem?_eq_getElem (show i<fs.length by rw[←q.len];exact(List.getElem?_eq_some_iff.1 ht).1))).1
 rw[h] at this
 cases this
theorem tog_lie {i:Nat} {t:Th} {f:Fe} (ht:ts[i]?=some t) (hf:fs[i]?=some f) (h4:t.place=4) (h:mayLieB t f=false):tabR n cd ts fs=none:=tab_noT fun R q=>by
 have:=((q.mays ht hf).2 h4).1
 rw[h] at this
 cases this
theorem tog_kd {i:Nat} {t:Th} {f:Fe} (ht:ts[i]?=some t) (hf:fs[i]?=some f) (h4:t.place=4) (h:(cd t.card).1.kd=2):tabR n cd ts fs=none:=tab_noT fun _ q=>((q.mays ht hf).2 h4).2 h
theorem tog_few {i:Nat} (h:16<onC ts i):tabR n cd ts fs=none:=tab_noT fun R q=>by
 have h1:=q.few
 have h2:=q.perm.length_eq
 rw[tbl_count ts fs 0 q.len] at h2
 have h3:=onC_le ts i
 have h4:onC ts ts.length=(ts.filter fun t=>decide (t.place=4)).length:=by unfold onC;rw[List.take_length]
 omega
theorem tog_dif {j k:Nat} {t s:Th} (hjk:j<k) (ht:ts[j]?=some t) (hs:ts[k]?=some s) (p4:t.place=4) (q4:s.place=4) (h:t.stamp=s.stamp):tabR n cd ts fs=none:=tab_noT fun R q=>by
 have a:=q.row_in ht p4
 have b:=q.row_in hs q4
 have:=st_inj q.up a b h
 injection this with e _ _ _
 omega
end
end Go.Proofs.YthfjgpjcepmnmaaGreat
