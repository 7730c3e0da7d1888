import Derived.Test.YthfjgpjcepmnmaaGreatO26
namespace Go.Proofs.YthfjgpjcepmnmaaGreat
open Go.RowKit Go.Shelf
def tn (b:Int) (r:Rw):Rw:={ r with st:=3*r.st+b }
theorem wA {b:Int}:∀ l:List Int,dif (l.map fun x=>3*x+b)=dif l
 | []=>rfl
 | [a]=>rfl
 | a :: c :: l=>by
  have e:=wA (b:=b) (c :: l)
  rw[List.map_cons] at e ⊢
  rw[List.map_cons]
  rw[gy,gy,e]
  congr 1
  rw[Bool.eq_iff_iff,decide_eq_true_iff,decide_eq_true_iff]
  omega
theorem uk {b:Int} (R:List Rw):aZ (R.map (tn b))=(aZ R).map fun x=>3*x+b:=by
 unfold aZ
 rw[List.map_map,List.map_map]
 rfl
theorem zq {b:Int} (acc:List Rw):sortR (acc.map (tn b))=(sortR acc).map (tn b):=by
 unfold sortR
 refine(List.map_mergeSort fun x _ y _=>?_).symm
 show decide (x.st≤y.st)=decide (3*x.st+b≤3*y.st+b)
 rw[Bool.eq_iff_iff,decide_eq_true_iff,decide_eq_true_iff]
 omega
theorem ay.set1 {α:Type} (R:ay α) {t t':α} {d:Nat} {v:Value} (hd:d<R.k) (he:(R.enc t).set d v=R.enc t'):∀ (l:List α) (i:Nat),l[i]?=some t→(R.cs l).set (i*R.k+d) v=R.cs (l.set i t')
 | [],i,h=>by simp at h
 | y :: l,0,h=>by
  simp at h
  subst h
  show (R.enc y++R.cs l).set (0*R.k+d) v=R.enc t'++R.cs l
  rw[Nat.zero_mul,Nat.zero_add,List.set_append_left _ _ (by rw[R.hk];exact hd),he]
 | y :: l,i+1,h=>by
  show (R.enc y++R.cs l).set ((i+1)*R.k+d) v=R.enc y++R.cs (l.set i t')
  rw[List.set_append_right _ _ (by rw[R.hk,Nat.succ_mul];omega),R.hk,show (i+1)*R.k+d - R.k=i*R.k+d from by rw[Nat.succ_mul];omega,R.set1 hd he l i (by simpa using h)]
theorem lF {w:World} {base g n c:Nat} {l:List Th} {i d:Nat} {t t':Th} {v:Value} (O:thR.Own 100 w base (.slice (some ⟨g,0,none⟩) n c) l) (hn:l.length=n) (ht:l[i]?=some t) (hd:d<11) (he:(thc t).set d v=thc t'):thR.Own 100 (w.setCell ⟨g,i*11+d,none⟩ v) base (.slice (some ⟨g,0,none⟩) n c) (l.set i t')∧w.grownBy (w.setCell ⟨g,i*11+d,none⟩ v) (some g):=by
 unfold ay.Own at O ⊢
 rw[hn] at O
 obtain⟨h1,h2⟩:=World.ownsRow.stored O (i*11+d) v
 have e:=thR.set1 (t:=t) (t':=t') (d:=d) (v:=v) hd he l i ht
 rw[List.length_set,hn]
 refine⟨?_,h2⟩
 rw[←e]
 exact h1
def tS (pf:Th→Fe) (t:Th):Fe:=if t.place=4 then pf t else Fe.none
def dx (pf:Th→Fe) (ts:List Th):List Fe:=ts.map (tS pf)
theorem zm (pf:Th→Fe) (ts:List Th):(dx pf ts).length=ts.length:=List.length_map _
def mkE (me:Th→Int):List Th→Int
 | []=>0
 | t :: l=>if t.place=4∧me t≠0 then me t else mkE me l
theorem Aa {me:Th→Int} {t:Th} {l:List Th} (h:t.place=4) (h2:me t≠0):mkE me (t :: l)=me t:=by
 rw[mkE,if_pos ⟨h,h2⟩]
theorem pC {me:Th→Int} {t:Th} {l:List Th} (h:¬(t.place=4∧me t≠0)):mkE me (t :: l)=mkE me l:=by
 rw[mkE,if_neg h]
def uj (R:List Rw) (fs:List Fe) (k:Int):List Fe:=dN fs R (mc R fs k).1
def clF (R:List Rw) (fs:List Fe):Nat→List Fe
 | 0=>fs
 | k+1=>uj R (clF R fs k) ((k:Int)+1)
def yM (mf:Fe→Th→Fe) (t:Th) (f:Fe):Fe:=if t.place=4 then mf f t else Fe.none
def qw (mf:Fe→Th→Fe) (ts:List Th) (fs:List Fe):List Fe:=List.zipWith (yM mf) ts fs
theorem zG (R:List Rw) (fs:List Fe) (k:Int):(uj R fs k).length=fs.length:=js _ _ _
theorem vE (R:List Rw) (fs:List Fe):∀ k,(clF R fs k).length=fs.length
 | 0=>rfl
 | k+1=>(zG _ _ _).trans (vE R fs k)
theorem Onc.run {m:Int} {cd:Int→Hd×List Pt} {ts:List Th} {fs:List Fe} {R:List Rw} {k:Int}:∀ (n:Nat) (X:List Fe) (L acc:List Se),L.length=n→Onc m cd ts fs R k X L acc→∃ Y B,Onc m cd ts fs R k Y [] B
 | 0,X,L,acc,h,q=>by
  have:L=[]:=List.length_eq_zero_iff.1 h
  subst this
  exact⟨X,acc,q⟩
 | n+1,X,L,acc,h,q=>Onc.run n _ _ _ (by rw[List.length_eraseIdx_of_lt (q.lt (by omega))];omega) (q.step (by omega))
theorem Tab.next {m:Int} {cd:Int→Hd×List Pt} {ts:List Th} {fs:List Fe} {R:List Rw} (h:Tab m cd ts fs R) (k:Int):Tab m cd ts (uj R fs k) R:=by
 obtain⟨Y,B,q⟩:=Onc.run (k:=k) _ _ _ _ rfl (Onc.start h)
 unfold uj
 rw[q.end]
 exact q.tab
theorem Tab.cl {m:Int} {cd:Int→Hd×List Pt} {ts:List Th} {fs:List Fe} {R:List Rw} (h:Tab m cd ts fs R):∀ k,Tab m cd ts (clF R fs k) R
 | 0=>h
 | k+1=>(h.cl k).next _
theorem Db {r n:Int} {cd:Int→Hd×List Pt} {ts:List Th} {fs:List Fe} {k:Int} (h:bgE r n cd ts fs k=0):r=0∧∃ R,Tab n cd ts fs R:=by
 obtain⟨h1,-,R,h2⟩:=m9 h
 exact⟨h1,R,Tab.of h2⟩
def vkE (r n:Int) (cd:Int→Hd×List Pt) (ts:List Th) (fs:List Fe) (me:Th→Int):Int:=if bgE r n cd ts fs 5=0 then mkE me ts else bgE r n cd ts fs 5
theorem tU {r n:Int} {cd:Int→Hd×List Pt} {ts:List Th} {fs:List Fe} {me:Th→Int} (h:¬bgE r n cd ts fs 5=0):vkE r n cd ts fs me=bgE r n cd ts fs 5:=if_neg h
theorem vw {r n:Int} {cd:Int→Hd×List Pt} {ts:List Th} {fs:List Fe} {me:Th→Int} (h:bgE r n cd ts fs 5=0):vkE r n cd ts fs me=mkE me ts:=if_pos h
theorem El {r n:Int} {cd:Int→Hd×List Pt} {ts:List Th} {fs:List Fe} {me:Th→Int} (h:vkE r n cd ts fs me=0):r=0∧(∃ R,Tab n cd ts fs R)∧mkE me ts=0:=by
 by_cases q:bgE r n cd ts fs 5=0
 ·obtain⟨a,b⟩:=Db q
  exact⟨a,b,by rw[←vw q];exact h⟩
 ·rw[tU q] at h
  exact absurd h q
def vqE (e:Int) (b:Bool) (x:Int):Int:=if e=0 then (if b then 0 else x) else e
def bhL (R:List Rw) (mf:Fe→Th→Fe) (ts:List Th) (fs:List Fe) (k:Int):List Fe:=if k=6 then qw mf ts (clF R fs 5) else clF R fs k.toNat
def vBh (r n:Int) (cd:Int→Hd×List Pt) (ts:List Th) (pf:Th→Fe) (mf:Fe→Th→Fe) (me:Th→Int) (k:Int):List Fe:=if vqE (vkE r n cd ts (dx pf (ts.take 2048)) me) (decide (0≤k∧k≤6)) 2=0 then (match bd n cd ts (dx pf ts) with | some R=>bhL R mf ts (dx pf ts) k | none=>[]) else []
theorem Fd {e x:Int} {b:Bool} (h:e≠0):vqE e b x=e:=if_neg h
def fB (ts:List Th) (x:Int):Int:=(ts.getD (x - 1).toNat Th.none).stamp
theorem Tab.up {n:Int} {cd:Int→Hd×List Pt} {ts:List Th} {fs:List Fe} {R:List Rw} (h:Tab n cd ts fs R):R.Pairwise fun a b=>a.st<b.st:=by
 have h':=h.tab
 unfold bd at h'
 split at h'
 ·split at h'
  ·split at h'
   ·rename_i hd
    cases h'
    have:=qu (gM (rP _)) hd
    unfold aZ at this
    rw[List.pairwise_map] at this
    exact this
   ·cases h'
  ·cases h'
 ·cases h'
theorem ss {R:List Rw} {F:List Fe} {a:Se} {i:Nat} (hi:i<R.length):(bg R F a).getD i false=fp R F a i:=by
 unfold bg ku
 rw[aw (by simpa using hi)]
 simp
theorem iV {R:List Rw} {F:List Fe} {a:Se} {x:Int}:x∈eB R (bg R F a)↔∃ i,i<R.length∧fp R F a i=true∧(R.getD i Rw.none).nu=x:=by
 unfold eB mx
 rw[List.mem_filterMap]
 constructor
 ·rintro⟨i,hi,e⟩
  rw[List.mem_range] at hi
  rw[ss hi] at e
  split at e
  ·rename_i hb
   cases e
   exact⟨i,hi,hb,rfl⟩
  ·cases e
 ·rintro⟨i,hi,hb,rfl⟩
  exact⟨i,List.mem_range.2 hi,by rw[ss hi,if_pos hb]⟩
theorem Tab.thing {n:Int} {cd:Int→Hd×List Pt} {ts:List Th} {fs:List Fe} {R:List Rw} (h:Tab n cd ts fs R) {i:Nat} (hi:i<R.length):(ts.getD ((R.getD i Rw.none).nu - 1).toNat Th.none).place=4∧fB ts (R.getD i Rw.none).nu=(R.getD i Rw.none).st∧0<(R.getD i Rw.none).st∧1≤(R.getD i Rw.none).nu∧(R.getD i Rw.none).nu≤(fs.length:Int):=by
 have hr:R.getD i Rw.none∈R:=by rw[aw hi];exact List.getElem_mem _
 obtain⟨j,t,ht,h4,hn,hs⟩:=h.from hr
 have hj:j<ts.length:=(List.getElem?_eq_some_iff.1 ht).1
 have e:ts.getD j Th.none=t:=by rw[List.getD_eq_getElem?_getD,ht];rfl
 have hm:=h.may j t _ ht (List.getElem?_eq_getElem (by rw[←h.len];exact hj)) h4
 unfold aQ at hm
 simp only[Bool.and_eq_true,decide_eq_true_eq] at hm
 unfold fB
 rw[hn,show ((j:Int)+1 - 1).toNat=j by omega,e,hs]
 exact⟨h4,rfl,hm.1.1,by omega,by rw[←h.len];omega⟩
theorem Tab.num {n:Int} {cd:Int→Hd×List Pt} {ts:List Th} {fs:List Fe} {R:List Rw} {F:List Fe} {a:Se} (h:Tab n cd ts fs R) {x:Int} (hx:x∈eB R (bg R F a)):1≤x∧x≤(fs.length:Int)∧(ts.getD (x - 1).toNat Th.none).place=4∧0<fB ts x:=by
 obtain⟨i,hi,_,rfl⟩:=iV.1 hx
 obtain⟨a1,a2,a3,a4,a5⟩:=h.thing hi
 exact⟨a4,a5,a1,by rw[a2];exact a3⟩
theorem Tab.rise {n:Int} {cd:Int→Hd×List Pt} {ts:List Th} {fs:List Fe} {R:List Rw} (F:List Fe) (a:Se) (h:Tab n cd ts fs R):(eB R (bg R F a)).Pairwise fun x y=>fB ts x<fB ts y:=by
 unfold eB mx
 refine List.Pairwise.filterMap _ (R:=fun i j:Nat=>i<R.length→j<R.length→i<j) ?_ ?_
 ·intro i j hij x hx y hy
  by_cases hi:i<R.length
  ·by_cases hj:j<R.length
   ·split at hx
    ·split at hy
     ·cases hx;cases hy
      have hlt:=hij hi hj
      rw[(h.thing hi).2.1,(h.thing hj).2.1,aw hi,aw hj]
      exact List.pairwise_iff_getElem.1 h.up i j hi hj hlt
     ·cases hy
    ·cases hx
   ·split at hy
    ·rename_i hb
     rw[List.getD_eq_getElem?_getD,List.getElem?_eq_none (by unfold bg ku;simp;omega)] at hb
     cases hb
    ·cases hy
  ·split at hx
   ·rename_i hb
    rw[List.getD_eq_getElem?_getD,List.getElem?_eq_none (by unfold bg ku;simp;omega)] at hb
    cases hb
   ·cases hx
 ·exact List.pairwise_lt_range.imp (fun {i j} q _ _=>q)
theorem fK {α β:Type} (f:α→β) (l:List α) (i:Nat) (d:α) (e:β) (h:i<l.length):(l.map f).getD i e=f (l.getD i d):=by
 rw[List.getD_eq_getElem?_getD,List.getD_eq_getElem?_getD,List.getElem?_map,List.getElem?_eq_getElem h]
 rfl
theorem nh {n:Int} {cd:Int→Hd×List Pt}:∀ (l:List (Th×Fe)) (i:Nat) (acc:List Rw),(∀ x∈l,bH n x.1=true∧(x.1.place=4→aQ x.1 x.2=true∧(cd x.1.card).1.kd≠2))→acc.length+(et cd l i).length≤16→cZ n cd l i acc=some (acc++et cd l i)
 | [],i,acc,_,_=>by simp[cZ,et]
 | (t,f) :: r,i,acc,h,hl=>by
  obtain⟨h1,h2⟩:=h (t,f) List.mem_cons_self
  have hr:∀ x∈r,bH n x.1=true∧(x.1.place=4→aQ x.1 x.2=true∧(cd x.1.card).1.kd≠2):=fun x hx=>h x (List.mem_cons_of_mem _ hx)
  unfold cZ
  rw[if_neg (by simp only at h1;rw[h1];simp)]
  by_cases hp:t.place=4
  ·obtain⟨h3,h4⟩:=h2 hp
   rw[dX hp] at hl ⊢
   rw[List.length_cons] at hl
   rw[if_neg (by simp[hp]),if_neg (by simp only at h3;rw[h3];simp;omega),if_neg h4,nh r (i+1) _ hr (by rw[List.length_append,List.length_singleton];omega),List.append_assoc,List.singleton_append]
  ·rw[gd hp] at hl ⊢
   rw[if_pos hp,nh r (i+1) acc hr hl]
theorem mE {n:Int} {cd:Int→Hd×List Pt}:∀ (l:List (Th×Fe)) (i:Nat) (acc A:List Rw),cZ n cd l i acc=some A→∀ x∈l,bH n x.1=true∧(x.1.place=4→aQ x.1 x.2=true∧(cd x.1.card).1.kd≠2)
 | [],i,acc,A,h,x,hx=>by cases hx
 | (t,f) :: r,i,acc,A,h,x,hx=>by
  unfold cZ at h
  split at h
  ·cases h
  ·rename_i h1
   have h1':bH n t=true:=by cases q:bH n t with | true=>rfl | false=>exact absurd q h1
   split at h
   ·rename_i hp
    rcases List.mem_cons.1 hx with rfl | hx
    ·exact⟨h1',fun z=>absurd z hp⟩
    ·exact mE r _ _ A h x hx
   ·split at h
    ·cases h
    ·rename_i hm
     split at h
     ·cases h
     ·rename_i hk
      rcases List.mem_cons.1 hx with rfl | hx
      ·refine⟨h1',fun _=>⟨?_,hk⟩⟩
       cases q:aQ t f with
       | true=>rfl
       | false=>exact absurd (Or.inr q) hm
      ·exact mE r _ _ A h x hx
theorem Tab.mays {n:Int} {cd:Int→Hd×List Pt} {ts:List Th} {fs:List Fe} {R:List Rw} (h:Tab n cd ts fs R) {j:Nat} {t:Th} {f:Fe} (ht:ts[j]?=some t) (hf:fs[j]?=some f):bH n t=true∧(t.place=4→aQ t f=true∧(cd t.card).1.kd≠2):=by
 have:=h.tab
 unfold bd at this
 split at this
 ·split at this
  ·rename_i acc ha
   exact mE _ _ _ _ ha (t,f) (List.mem_of_getElem? (dC.2 ⟨ht,hf⟩))
  ·cases this
 ·cases this
theorem ng:∀ l:List Int,(l.Pairwise fun a b=>a<b)→dif l=true
 | [],_=>rfl
 | [a],_=>rfl
 | a :: b :: l,h=>by
  have h':=List.pairwise_cons.1 h
  have hab:=h'.1 b List.mem_cons_self
  unfold dif
  rw[ng (b :: l) h'.2]
  simp only[Bool.and_true,decide_eq_true_eq]
  omega
theorem sL {cd:Int→Hd×List Pt}:∀ (l:List (Th×Fe)) (i j:Nat) (t:Th) (f:Fe),l[j]?=some (t,f)→t.place=4→(⟨(i:Int)+j+1,t.stamp,(cd t.card).1,(cd t.card).2⟩:Rw)∈et cd l i
 | [],i,j,t,f,h,_=>by simp at h
 | (t',f') :: l,i,0,t,f,h,h4=>by
  simp at h
  obtain⟨rfl,rfl⟩:=h
  rw[dX h4]
  exact List.mem_cons.2 (Or.inl (by simp))
 | (t',f') :: l,i,j+1,t,f,h,h4=>by
  have:=sL (cd:=cd) l (i+1) j t f (by simpa using h) h4
  have e:(((i+1:Nat):Int)+j+1)=((i:Int)+((j+1:Nat):Int)+1):=by omega
  rw[e] at this
  by_cases hp:t'.place=4
  ·rw[dX hp];exact List.mem_cons_of_mem _ this
  ·rw[gd hp];exact this
theorem Tab.row {n:Int} {cd:Int→Hd×List Pt} {ts:List Th} {fs:List Fe} {R:List Rw} (h:Tab n cd ts fs R) {r:Rw} (hr:r∈R):∃ (j:Nat) (t:Th),ts[j]?=some t∧t.place=4∧r=⟨(j:Int)+1,t.stamp,(cd t.card).1,(cd t.card).2⟩:=by
 obtain⟨j,t,f,a,b,c⟩:=iJ _ _ _ (h.perm.mem_iff.1 hr)
 exact⟨j,t,(dC.1 a).1,b,by rw[c];simp⟩
theorem Tab.row_in {n:Int} {cd:Int→Hd×List Pt} {ts:List Th} {fs:List Fe} {R:List Rw} (h:Tab n cd ts fs R) {j:Nat} {t:Th} (ht:ts[j]?=some t) (h4:t.place=4):(⟨(j:Int)+1,t.stamp,(cd t.card).1,(cd t.card).2⟩:Rw)∈R:=by
 have hj:j<ts.length:=(List.getElem?_eq_some_iff.1 ht).1
 have:=sL (cd:=cd) (ts.zip fs) 0 j t _ (dC.2 ⟨ht,List.getElem?_eq_getElem (show j<fs.length by rw[←h.len];exact hj)⟩) h4
 rw[show (((0:Nat):Int)+j+1)=(j:Int)+1 by omega] at this
 exact h.perm.mem_iff.2 this
theorem Eb {Q:List Rw} (h:Q.Pairwise fun a b=>a.st<b.st) {a b:Rw} (ha:a∈Q) (hb:b∈Q) (e:a.st=b.st):a=b:=by
 obtain⟨i,hi,rfl⟩:=List.getElem_of_mem ha
 obtain⟨j,hj,rfl⟩:=List.getElem_of_mem hb
 have q:=List.pairwise_iff_getElem.1 h
 rcases Nat.lt_trichotomy i j with z | z | z
 ·have:=q i j hi hj z;omega
 ·subst z;rfl
 ·have:=q j i hj hi z;omega
theorem toN (j:Nat):((j:Int)+1 - 1).toNat=j:=by omega
def onC (ts:List Th) (i:Nat):Nat:=((ts.take i).filter fun t=>decide (t.place=4)).length
theorem uz {ts:List Th} {i:Nat} {t:Th} (h:ts[i]?=some t) (h4:t.place=4):onC ts (i+1)=onC ts i+1:=by
 unfold onC
 rw[List.take_add_one,h,List.filter_append,List.length_append]
 simp[h4]
theorem wt {ts:List Th} {i:Nat} {t:Th} (h:ts[i]?=some t) (h4:¬t.place=4):onC ts (i+1)=onC ts i:=by
 unfold onC
 rw[List.take_add_one,h,List.filter_append,List.length_append]
 simp[h4]
theorem F8 (ts:List Th) (i:Nat):onC ts i≤onC ts ts.length:=by
 unfold onC
 rw[List.take_length]
 exact((List.take_sublist i ts).filter _).length_le
theorem iX {cd:Int→Hd×List Pt}:∀ (ts:List Th) (fs:List Fe) (i:Nat),ts.length=fs.length→(et cd (ts.zip fs) i).length=(ts.filter fun t=>decide (t.place=4)).length
 | [],[],i,_=>rfl
 | t :: ts,f :: fs,i,h=>by
  rw[List.zip_cons_cons]
  by_cases q:t.place=4
  ·rw[dX q,List.length_cons,iX ts fs (i+1) (by simpa using h)]
   simp[q]
  ·rw[gd q,iX ts fs (i+1) (by simpa using h)]
   simp[q]
def tOk (n:Int) (cd:Int→Hd×List Pt) (t:Th) (f:Fe):Prop:=bH n t=true∧(t.place=4→aQ t f=true∧(cd t.card).1.kd≠2)
structure TgU (n:Int) (cd:Int→Hd×List Pt) (ts:List Th) (fs:List Fe) (i:Nat):Prop where
 ok:∀ (j:Nat) t f,j<i→ts[j]?=some t→fs[j]?=some f→tOk n cd t f
 few:onC ts i≤16
 dif:∀ (j k:Nat) t s,j<k→k<i→ts[j]?=some t→ts[k]?=some s→t.place=4→s.place=4→t.stamp≠s.stamp
theorem TgU.start (n:Int) (cd:Int→Hd×List Pt) (ts:List Th) (fs:List Fe):TgU n cd ts fs 0:=⟨fun _ _ _ h=>absurd h (Nat.not_lt_zero _),by simp[onC],fun _ _ _ _ _ h=>absurd h (Nat.not_lt_zero _)⟩
theorem TgU.off {n:Int} {cd:Int→Hd×List Pt} {ts:List Th} {fs:List Fe} {i:Nat} {t:Th} (h:TgU n cd ts fs i) (ht:ts[i]?=some t) (h4:¬t.place=4) (hm:bH n t=true):TgU n cd ts fs (i+1):=by
 refine⟨fun j s f hj hs hf=>?_,by rw[wt ht h4];exact h.few,fun j k s u hjk hk hs hu p4 q4=>?_⟩
 ·by_cases e:j=i
  ·subst e
   rw[ht] at hs
   cases hs
   exact⟨hm,fun z=>absurd z h4⟩
  ·exact h.ok j s f (by omega) hs hf
 ·by_cases e:k=i
  ·subst e
   rw[ht] at hu
   cases hu
   exact absurd q4 h4
  ·exact h.dif j k s u hjk (by omega) hs hu p4 q4
theorem TgU.on {n:Int} {cd:Int→Hd×List Pt} {ts:List Th} {fs:List Fe} {i:Nat} {t:Th} {f:Fe} (h:TgU n cd ts fs i) (ht:ts[i]?=some t) (hf:fs[i]?=some f) (hm:bH n t=true) (hl:aQ t f=true) (hk:(cd t.card).1.kd≠2) (hc:onC ts (i+1)≤16) (hd:∀ (j:Nat) s,j<i→ts[j]?=some s→s.place=4→s.stamp≠t.stamp):TgU n cd ts fs (i+1):=by
 refine⟨fun j s g hj hs hg=>?_,hc,fun j k s u hjk hk' hs hu p4 q4=>?_⟩
 ·by_cases e:j=i
  ·subst e
   rw[ht] at hs
   rw[hf] at hg
   cases hs
   cases hg
   exact⟨hm,fun _=>⟨hl,hk⟩⟩
  ·exact h.ok j s g (by omega) hs hg
 ·by_cases e:k=i
  ·subst e
   rw[ht] at hu
   cases hu
   exact hd j s hjk hs p4
  ·exact h.dif j k s u hjk (by omega) hs hu p4 q4
theorem TgU.done {n:Int} {cd:Int→Hd×List Pt} {ts:List Th} {fs:List Fe} (h:TgU n cd ts fs ts.length) (hl:ts.length=fs.length):∃ R,bd n cd ts fs=some R:=by
 have hlay:cZ n cd (ts.zip fs) 0 []=some (et cd (ts.zip fs) 0):=by
  rw[nh _ _ _ (fun x hx=>?_) (by
   rw[iX ts fs 0 hl]
   have:=h.few
   unfold onC at this
   rw[List.take_length] at this
   simpa using this)]
  ·rfl
  ·obtain⟨j,hj⟩:=List.getElem?_of_mem hx
   obtain⟨a,b⟩:=dC (t:=x.1) (f:=x.2) |>.1 hj
   exact h.ok j _ _ (List.getElem?_eq_some_iff.1 a).1 a b
 have hne:(et cd (ts.zip fs) 0).Pairwise fun a b=>a.st≠b.st:=by
  refine List.Pairwise.imp_of_mem (fun {a b} ha hb q=>?_) (tN (cd:=cd) (ts.zip fs) 0).2
  obtain⟨j,t,f,a1,a2,a3⟩:=iJ _ _ _ ha
  obtain⟨k,s,g,b1,b2,b3⟩:=iJ _ _ _ hb
  rw[a3,b3] at q ⊢
  simp only at q ⊢
  exact h.dif j k t s (by omega) (List.getElem?_eq_some_iff.1 (dC.1 b1).1).1 (dC.1 a1).1 (dC.1 b1).1 a2 b2
 have hp:(sortR (et cd (ts.zip fs) 0)).Perm (et cd (ts.zip fs) 0):=List.mergeSort_perm _ _
 have h1:(sortR (et cd (ts.zip fs) 0)).Pairwise fun a b=>a.st≤b.st:=(List.pairwise_mergeSort (le:=fun a b:Rw=>decide (a.st≤b.st)) (fun a b c h1 h2=>by simp only[decide_eq_true_eq] at *;omega) (fun a b=>by simp only[Bool.or_eq_true,decide_eq_true_eq];omega) _).imp (fun {a b} q=>by simpa using q)
 have h2:(sortR (et cd (ts.zip fs) 0)).Pairwise fun a b=>a.st≠b.st:=(hp.pairwise_iff (fun {a b} q e=>q e.symm)).2 hne
 refine⟨sortR (et cd (ts.zip fs) 0),?_⟩
 unfold bd
 rw[if_pos hl,hlay]
 exact if_pos (ng _ (List.pairwise_map.2 ((h1.and h2).imp (fun {a b} q=>by omega))))
section
variable {n:Int} {cd:Int→Hd×List Pt} {ts:List Th} {fs:List Fe}
theorem j3 (h:∀ R,¬Tab n cd ts fs R):bd n cd ts fs=none:=by
 cases q:bd n cd ts fs with
 | none=>rfl
 | some R=>exact absurd (Tab.of q) (h R)
theorem Cw (h:¬ts.length=fs.length):bd n cd ts fs=none:=j3 fun _ q=>h q.len
theorem mJ {i:Nat} {t:Th} (ht:ts[i]?=some t) (h:bH n t=false):bd n cd ts fs=none:=j3 fun R q=>by
 have:=(q.mays ht (List.getElem?_eq_getElem (show i<fs.length by rw[←q.len];exact(List.getElem?_eq_some_iff.1 ht).1))).1
 rw[h] at this
 cases this
theorem lh {i:Nat} {t:Th} {f:Fe} (ht:ts[i]?=some t) (hf:fs[i]?=some f) (h4:t.place=4) (h:aQ t f=false):bd n cd ts fs=none:=j3 fun R q=>by
 have:=((q.mays ht hf).2 h4).1
 rw[h] at this
 cases this
theorem Ew {i:Nat} {t:Th} {f:Fe} (ht:ts[i]?=some t) (hf:fs[i]?=some f) (h4:t.place=4) (h:(cd t.card).1.kd=2):bd n cd ts fs=none:=j3 fun _ q=>((q.mays ht hf).2 h4).2 h
theorem Ds {i:Nat} (h:16<onC ts i):bd n cd ts fs=none:=j3 fun R q=>by
 have h1:=q.few
 have h2:=q.perm.length_eq
 rw[iX ts fs 0 q.len] at h2
 have h3:=F8 ts i
 have h4:onC ts ts.length=(ts.filter fun t=>decide (t.place=4)).length:=by unfold onC;rw[List.take_length]
 omega
theorem Cb {j k:Nat} {t s:Th} (hjk:j<k) (ht:ts[j]?=some t) (hs:ts[k]?=some s) (p4:t.place=4) (q4:s.place=4) (h:t.stamp=s.stamp):bd n cd ts fs=none:=j3 fun R q=>by
 have a:=q.row_in ht p4
 have b:=q.row_in hs q4
 have:=Eb q.up a b h
 injection this with e _ _ _
 omega
end
end Go.Proofs.YthfjgpjcepmnmaaGreat
