import Derived.Test.YtjmepebbcnhalaaGreatZ23
namespace Go.Proofs.YtjmepebbcnhalaaGreat
open Go.RowKit Go.Shelf
variable {w w':World} {r n:Int} {cd:Int→Hd×List Pt} {ts:List Th} {fs F:List Fe} {me:Th→Int} {R:List Rw} {i j k:Nat} {t:Th} {f:Fe}
def B8 (r n:Int) (cd:Int→Hd×List Pt) (ts:List Th) (fs:List Fe) (k:Int):List Fe:=if bgE r n cd ts fs k=0 then (match bI n cd ts fs with | some R=>ei fs R (jZ R fs k).1 | none=>[]) else []
def AV (r n:Int) (cd:Int→Hd×List Pt) (ts:List Th) (fs:List Fe) (k:Int):List Sd:=if bgE r n cd ts fs k=0 then (match bI n cd ts fs with | some R=>(jZ R fs k).2.map Se.s | none=>[]) else []
theorem kw.lists {k:Int} {e:Ending} (h:kw w r n cd ts fs k e w'):∃ p c p' c',e=.returned (.tuple #[.slice p (B8 r n cd ts fs k).length c,.slice p' (AV r n cd ts fs k).length c',.int .i64 (bgE r n cd ts fs k)])∧w.grownBy w' none∧feR.At w' (.slice p (B8 r n cd ts fs k).length c) (B8 r n cd ts fs k)∧sdR.At w' (.slice p' (AV r n cd ts fs k).length c') (AV r n cd ts fs k):=by
 obtain⟨p,m,c,p',m',c',e1,g,z,q⟩:=h;by_cases h0:bgE r n cd ts fs k=0
 ·obtain⟨hr,hk,R,hR⟩:=lD h0;obtain⟨o1,o2⟩:=q R hr hk hR;have a1:B8 r n cd ts fs k=ei fs R (jZ R fs k).1:=by unfold B8;rw[if_pos h0,hR]
  have a2:AV r n cd ts fs k=(jZ R fs k).2.map Se.s:=by unfold AV;rw[if_pos h0,hR]
  rw[←a1] at o1;rw[←a2] at o2;obtain⟨x,y,f1⟩:=aB.Own.form o1;cases f1;obtain⟨x',y',f2⟩:=aB.Own.form o2;cases f2;exact⟨p,c,p',c',e1,g,aB.Own.at o1,aB.Own.at o2⟩
 ·obtain⟨rfl,rfl,rfl,rfl,-,-⟩:=z h0;have a1:B8 r n cd ts fs k=[]:=if_neg h0;have a2:AV r n cd ts fs k=[]:=if_neg h0;rw[a1,a2];exact⟨none,c,none,c',e1,g,⟨none,c,rfl,Q0 _,fun q=>absurd q (Qdf 0)⟩,⟨none,c',rfl,Q0 _,fun q=>absurd q (Qdf 0)⟩⟩
def xH (pf:Th→Fe) (t:Th):Fe:=if t.place=4 then pf t else Fe.none
def dR (pf:Th→Fe) (ts:List Th):List Fe:=ts.map (xH pf)
theorem DF (pf:Th→Fe) (ts:List Th):(dR pf ts).length=ts.length:=Qa9 _
def mkE (me:Th→Int):List Th→Int
 | []=>0
 | t :: l=>if t.place=4∧me t≠0 then me t else mkE me l
theorem CQ {t:Th} {l:List Th} (h:t.place=4) (h2:me t≠0):mkE me (t :: l)=me t:=by
 rw[mkE,if_pos ⟨h,h2⟩]
theorem sA {t:Th} {l:List Th} (h:¬(t.place=4∧me t≠0)):mkE me (t :: l)=mkE me l:=by
 rw[mkE,if_neg h]
def xM (R:List Rw) (fs:List Fe) (k:Int):List Fe:=ei fs R (jZ R fs k).1
def clF (R:List Rw) (fs:List Fe):Nat→List Fe
 | 0=>fs
 | k+1=>xM R (clF R fs k) ((k:Int)+1)
def vD (mf:Fe→Th→Fe) (t:Th) (f:Fe):Fe:=if t.place=4 then mf f t else Fe.none
def kf (mf:Fe→Th→Fe) (ts:List Th) (fs:List Fe):List Fe:=List.zipWith (vD mf) ts fs
theorem DI (R:List Rw) (fs:List Fe) (k:Int):(xM R fs k).length=fs.length:=l5 _ _ _
theorem yH (R:List Rw) (fs:List Fe):∀ k,(clF R fs k).length=fs.length
 | 0=>rfl
 | k+1=>(DI _ _ _).trans (yH R fs k)
theorem Onc.run {m:Int} {cd:Int→Hd×List Pt} {ts:List Th} {fs:List Fe} {R:List Rw} {k:Int}:∀ (n:Nat) (X:List Fe) (L acc:List Se),L.length=n→Onc m cd ts fs R k X L acc→∃ Y B,Onc m cd ts fs R k Y [] B
 | 0,X,L,acc,h,q=>by
  have:L=[]:=List.length_eq_zero_iff.1 h;subst this;exact⟨X,acc,q⟩
 | n+1,X,L,acc,h,q=>Onc.run n _ _ _ (by rw[List.length_eraseIdx_of_lt (q.lt (by omega))];omega) (q.step (by omega))
theorem Tab.next {m:Int} (h:Tab m cd ts fs R) (k:Int):Tab m cd ts (xM R fs k) R:=by
 obtain⟨Y,B,q⟩:=Onc.run (k:=k) _ _ _ _ rfl (Onc.start h);unfold xM;rw[q.end];exact q.tab
theorem Tab.cl {m:Int} {cd:Int→Hd×List Pt} {ts:List Th} {fs:List Fe} {R:List Rw} (h:Tab m cd ts fs R):∀ k,Tab m cd ts (clF R fs k) R
 | 0=>h
 | k+1=>(h.cl k).next _
theorem Fl {k:Int} (h:bgE r n cd ts fs k=0):r=0∧∃ R,Tab n cd ts fs R:=by
 obtain⟨h1,-,R,h2⟩:=lD h;exact⟨h1,R,Tab.of h2⟩
def vkE (r n:Int) (cd:Int→Hd×List Pt) (ts:List Th) (fs:List Fe) (me:Th→Int):Int:=if bgE r n cd ts fs 5=0 then mkE me ts else bgE r n cd ts fs 5
theorem wv (h:¬bgE r n cd ts fs 5=0):vkE r n cd ts fs me=bgE r n cd ts fs 5:=if_neg h
theorem yG (h:bgE r n cd ts fs 5=0):vkE r n cd ts fs me=mkE me ts:=if_pos h
theorem Gb (h:vkE r n cd ts fs me=0):r=0∧(∃ R,Tab n cd ts fs R)∧mkE me ts=0:=by
 by_cases q:bgE r n cd ts fs 5=0
 ·obtain⟨a,b⟩:=Fl q;exact⟨a,b,by rw[←yG q];exact h⟩
 ·rw[wv q] at h;exact absurd h q
def vqE (e:Int) (b:Bool) (x:Int):Int:=if e=0 then (if b then 0 else x) else e
def bhL (R:List Rw) (mf:Fe→Th→Fe) (ts:List Th) (fs:List Fe) (k:Int):List Fe:=if k=6 then kf mf ts (clF R fs 5) else clF R fs k.toNat
def vBh (r n:Int) (cd:Int→Hd×List Pt) (ts:List Th) (pf:Th→Fe) (mf:Fe→Th→Fe) (me:Th→Int) (k:Int):List Fe:=if vqE (vkE r n cd ts (dR pf (ts.take 2048)) me) (decide (0≤k∧k≤6)) 2=0 then (match bI n cd ts (dR pf ts) with | some R=>bhL R mf ts (dR pf ts) k | none=>[]) else []
theorem GK {e x:Int} {b:Bool} (h:e≠0):vqE e b x=e:=if_neg h
def gw (ts:List Th) (x:Int):Int:=(ts.getD (x - 1).toNat Th.none).stamp
theorem Tab.up (h:Tab n cd ts fs R):R.Pairwise fun a b=>a.st<b.st:=by
 have h':=h.tab;unfold bI at h';split at h'
 ·split at h'
  ·split at h'
   ·rename_i hd;cases h';have:=rI (iE (tq _)) hd;unfold bG at this;rw[Qbm] at this;exact this
   ·cases h'
  ·cases h'
 ·cases h'
theorem ti {a:Se} (hi:i<R.length):(bC R F a).getD i false=gn R F a i:=by
 unfold bC lO;rw[aG (by simpa using hi)];simp
theorem jH {a:Se} {x:Int}:x∈fC R (bC R F a)↔∃ i,i<R.length∧gn R F a i=true∧(R.getD i Rw.none).nu=x:=by
 unfold fC nk;rw[List.mem_filterMap];constructor
 ·rintro⟨i,hi,e⟩;rw[Qdb] at hi;rw[ti hi] at e;split at e
  ·rename_i hb;cases e;exact⟨i,hi,hb,rfl⟩
  ·cases e
 ·rintro⟨i,hi,hb,rfl⟩;exact⟨i,Qdb.2 hi,by rw[ti hi,if_pos hb]⟩
theorem Tab.thing (h:Tab n cd ts fs R) {i:Nat} (hi:i<R.length):(ts.getD ((R.getD i Rw.none).nu - 1).toNat Th.none).place=4∧gw ts (R.getD i Rw.none).nu=(R.getD i Rw.none).st∧0<(R.getD i Rw.none).st∧1≤(R.getD i Rw.none).nu∧(R.getD i Rw.none).nu≤(fs.length:Int):=by
 have hr:R.getD i Rw.none∈R:=by rw[aG hi];exact Qab _
 obtain⟨j,t,ht,h4,hn,hs⟩:=h.from hr;have hj:j<ts.length:=(Qh ht).1;have e:ts.getD j Th.none=t:=by rw[Qa2,ht];rfl
 have hm:=h.may j t _ ht (Qg (by rw[←h.len];exact hj)) h4;unfold bq at hm;simp only[Bool.and_eq_true,decide_eq_true_eq] at hm;unfold gw;rw[hn,show ((j:Int)+1 - 1).toNat=j by omega,e,hs];exact⟨h4,rfl,hm.1.1,by omega,by rw[←h.len];omega⟩
theorem Tab.num {a:Se} (h:Tab n cd ts fs R) {x:Int} (hx:x∈fC R (bC R F a)):1≤x∧x≤(fs.length:Int)∧(ts.getD (x - 1).toNat Th.none).place=4∧0<gw ts x:=by
 obtain⟨i,hi,_,rfl⟩:=jH.1 hx;obtain⟨a1,a2,a3,a4,a5⟩:=h.thing hi;exact⟨a4,a5,a1,by rw[a2];exact a3⟩
theorem Tab.rise (F:List Fe) (a:Se) (h:Tab n cd ts fs R):(fC R (bC R F a)).Pairwise fun x y=>gw ts x<gw ts y:=by
 unfold fC nk;refine List.Pairwise.filterMap _ (R:=fun i j:Nat=>i<R.length→j<R.length→i<j) ?_ ?_
 ·intro i j hij x hx y hy;by_cases hi:i<R.length
  ·by_cases hj:j<R.length
   ·split at hx
    ·split at hy
     ·cases hx;cases hy;have hlt:=hij hi hj;rw[(h.thing hi).2.1,(h.thing hj).2.1,aG hi,aG hj];exact Qcg.1 h.up i j hi hj hlt
     ·cases hy
    ·cases hx
   ·split at hy
    ·rename_i hb;rw[Qa2,Qan (by unfold bC lO;simp;omega)] at hb;cases hb
    ·cases hy
  ·split at hx
   ·rename_i hb;rw[Qa2,Qan (by unfold bC lO;simp;omega)] at hb;cases hb
   ·cases hx
 ·exact List.pairwise_lt_range.imp (fun {i j} q _ _=>q)
theorem gI {α β:Type} (f:α→β) (l:List α) (i:Nat) (d:α) (e:β) (h:i<l.length):(l.map f).getD i e=f (l.getD i d):=by
 rw[Qa2,Qa2,Qak,Qg h];rfl
theorem px {n:Int} {cd:Int→Hd×List Pt}:∀ (l:List (Th×Fe)) (i:Nat) (acc:List Rw),(∀ x∈l,cR n x.1=true∧(x.1.place=4→bq x.1 x.2=true∧(cd x.1.card).1.kd≠2))→acc.length+(fy cd l i).length≤16→dW n cd l i acc=some (acc++fy cd l i)
 | [],i,acc,_,_=>by simp[dW,fy]
 | (t,f) :: r,i,acc,h,hl=>by
  obtain⟨h1,h2⟩:=h (t,f) Qaw;have hr:∀ x∈r,cR n x.1=true∧(x.1.place=4→bq x.1 x.2=true∧(cd x.1.card).1.kd≠2):=fun x hx=>h x (Qar _ hx);unfold dW;rw[if_neg (by simp only at h1;rw[h1];simp)];by_cases hp:t.place=4
  ·obtain⟨h3,h4⟩:=h2 hp;rw[eZ hp] at hl ⊢;rw[Qau] at hl;rw[if_neg (by simp[hp]),if_neg (by simp only at h3;rw[h3];simp;omega),if_neg h4,px r (i+1) _ hr (by rw[Qa,Qax];omega),Qb8,Qcx]
  ·rw[ia hp] at hl ⊢;rw[if_pos hp,px r (i+1) acc hr hl]
theorem oP {n:Int} {cd:Int→Hd×List Pt}:∀ (l:List (Th×Fe)) (i:Nat) (acc A:List Rw),dW n cd l i acc=some A→∀ x∈l,cR n x.1=true∧(x.1.place=4→bq x.1 x.2=true∧(cd x.1.card).1.kd≠2)
 | [],i,acc,A,h,x,hx=>by cases hx
 | (t,f) :: r,i,acc,A,h,x,hx=>by
  unfold dW at h;split at h
  ·cases h
  ·rename_i h1;have h1':cR n t=true:=by cases q:cR n t with | true=>rfl | false=>exact absurd q h1
   split at h
   ·rename_i hp
    rcases Qbo.1 hx with rfl | hx
    ·exact⟨h1',fun z=>absurd z hp⟩
    ·exact oP r _ _ A h x hx
   ·split at h
    ·cases h
    ·rename_i hm;split at h
     ·cases h
     ·rename_i hk
      rcases Qbo.1 hx with rfl | hx
      ·refine⟨h1',fun _=>⟨?_,hk⟩⟩;cases q:bq t f with
       | true=>rfl
       | false=>exact absurd (Or.inr q) hm
      ·exact oP r _ _ A h x hx
theorem Tab.mays (h:Tab n cd ts fs R) {j:Nat} {t:Th} {f:Fe} (ht:ts[j]?=some t) (hf:fs[j]?=some f):cR n t=true∧(t.place=4→bq t f=true∧(cd t.card).1.kd≠2):=by
 have:=h.tab;unfold bI at this;split at this
 ·split at this
  ·rename_i acc ha;exact oP _ _ _ _ ha (t,f) (Qm (fg.2 ⟨ht,hf⟩))
  ·cases this
 ·cases this
theorem oZ:∀ l:List Int,(l.Pairwise fun a b=>a<b)→dif l=true
 | [],_=>rfl
 | [a],_=>rfl
 | a :: b :: l,h=>by
  have h':=Qbq.1 h;have hab:=h'.1 b Qaw;unfold dif;rw[oZ (b :: l) h'.2];simp only[Bool.and_true,decide_eq_true_eq];omega
theorem uQ {cd:Int→Hd×List Pt}:∀ (l:List (Th×Fe)) (i j:Nat) (t:Th) (f:Fe),l[j]?=some (t,f)→t.place=4→(⟨(i:Int)+j+1,t.stamp,(cd t.card).1,(cd t.card).2⟩:Rw)∈fy cd l i
 | [],i,j,t,f,h,_=>by simp at h
 | (t',f') :: l,i,0,t,f,h,h4=>by
  simp at h;obtain⟨rfl,rfl⟩:=h;rw[eZ h4];exact Qbo.2 (Or.inl (by simp))
 | (t',f') :: l,i,j+1,t,f,h,h4=>by
  have:=uQ (cd:=cd) l (i+1) j t f (by simpa using h) h4;have e:(((i+1:Nat):Int)+j+1)=((i:Int)+((j+1:Nat):Int)+1):=by omega
  rw[e] at this;by_cases hp:t'.place=4
  ·rw[eZ hp];exact Qar _ this
  ·rw[ia hp];exact this
theorem Tab.row (h:Tab n cd ts fs R) {r:Rw} (hr:r∈R):∃ (j:Nat) (t:Th),ts[j]?=some t∧t.place=4∧r=⟨(j:Int)+1,t.stamp,(cd t.card).1,(cd t.card).2⟩:=by
 obtain⟨j,t,f,a,b,c⟩:=je _ _ _ (h.perm.mem_iff.1 hr);exact⟨j,t,(fg.1 a).1,b,by rw[c];simp⟩
theorem Tab.row_in (h:Tab n cd ts fs R) {j:Nat} {t:Th} (ht:ts[j]?=some t) (h4:t.place=4):(⟨(j:Int)+1,t.stamp,(cd t.card).1,(cd t.card).2⟩:Rw)∈R:=by
 have hj:j<ts.length:=(Qh ht).1;have:=uQ (cd:=cd) (ts.zip fs) 0 j t _ (fg.2 ⟨ht,Qg (show j<fs.length by rw[←h.len];exact hj)⟩) h4;rw[show (((0:Nat):Int)+j+1)=(j:Int)+1 by omega] at this;exact h.perm.mem_iff.2 this
theorem I7 {Q:List Rw} (h:Q.Pairwise fun a b=>a.st<b.st) {a b:Rw} (ha:a∈Q) (hb:b∈Q) (e:a.st=b.st):a=b:=by
 obtain⟨i,hi,rfl⟩:=Qbi ha;obtain⟨j,hj,rfl⟩:=Qbi hb;have q:=Qcg.1 h
 rcases Qde i j with z | z | z
 ·have:=q i j hi hj z;omega
 ·subst z;rfl
 ·have:=q j i hj hi z;omega
theorem toN (j:Nat):((j:Int)+1 - 1).toNat=j:=by omega
def onC (ts:List Th) (i:Nat):Nat:=((ts.take i).filter fun t=>decide (t.place=4)).length
theorem wE (h:ts[i]?=some t) (h4:t.place=4):onC ts (i+1)=onC ts i+1:=by
 unfold onC;rw[Qat,h,List.filter_append,Qa];simp[h4]
theorem yV (h:ts[i]?=some t) (h4:¬t.place=4):onC ts (i+1)=onC ts i:=by
 unfold onC;rw[Qat,h,List.filter_append,Qa];simp[h4]
theorem GF (ts:List Th) (i:Nat):onC ts i≤onC ts ts.length:=by
 unfold onC;rw[Qas];exact((List.take_sublist i ts).filter _).length_le
theorem jJ {cd:Int→Hd×List Pt}:∀ (ts:List Th) (fs:List Fe) (i:Nat),ts.length=fs.length→(fy cd (ts.zip fs) i).length=(ts.filter fun t=>decide (t.place=4)).length
 | [],[],i,_=>rfl
 | t :: ts,f :: fs,i,h=>by
  rw[List.zip_cons_cons];by_cases q:t.place=4
  ·rw[eZ q,Qau,jJ ts fs (i+1) (by simpa using h)];simp[q]
  ·rw[ia q,jJ ts fs (i+1) (by simpa using h)];simp[q]
def tOk (n:Int) (cd:Int→Hd×List Pt) (t:Th) (f:Fe):Prop:=cR n t=true∧(t.place=4→bq t f=true∧(cd t.card).1.kd≠2)
structure TgU (n:Int) (cd:Int→Hd×List Pt) (ts:List Th) (fs:List Fe) (i:Nat):Prop where
 ok:∀ (j:Nat) t f,j<i→ts[j]?=some t→fs[j]?=some f→tOk n cd t f
 few:onC ts i≤16
 dif:∀ (j k:Nat) t s,j<k→k<i→ts[j]?=some t→ts[k]?=some s→t.place=4→s.place=4→t.stamp≠s.stamp
theorem TgU.start (n:Int) (cd:Int→Hd×List Pt) (ts:List Th) (fs:List Fe):TgU n cd ts fs 0:=⟨fun _ _ _ h=>absurd h (Qbh _),by simp[onC],fun _ _ _ _ _ h=>absurd h (Qbh _)⟩
theorem TgU.off (h:TgU n cd ts fs i) (ht:ts[i]?=some t) (h4:¬t.place=4) (hm:cR n t=true):TgU n cd ts fs (i+1):=by
 refine⟨fun j s f hj hs hf=>?_,by rw[yV ht h4];exact h.few,fun j k s u hjk hk hs hu p4 q4=>?_⟩
 ·by_cases e:j=i
  ·subst e;rw[ht] at hs;cases hs;exact⟨hm,fun z=>absurd z h4⟩
  ·exact h.ok j s f (by omega) hs hf
 ·by_cases e:k=i
  ·subst e;rw[ht] at hu;cases hu;exact absurd q4 h4
  ·exact h.dif j k s u hjk (by omega) hs hu p4 q4
theorem TgU.on (h:TgU n cd ts fs i) (ht:ts[i]?=some t) (hf:fs[i]?=some f) (hm:cR n t=true) (hl:bq t f=true) (hk:(cd t.card).1.kd≠2) (hc:onC ts (i+1)≤16) (hd:∀ (j:Nat) s,j<i→ts[j]?=some s→s.place=4→s.stamp≠t.stamp):TgU n cd ts fs (i+1):=by
 refine⟨fun j s g hj hs hg=>?_,hc,fun j k s u hjk hk' hs hu p4 q4=>?_⟩
 ·by_cases e:j=i
  ·subst e;rw[ht] at hs;rw[hf] at hg;cases hs;cases hg;exact⟨hm,fun _=>⟨hl,hk⟩⟩
  ·exact h.ok j s g (by omega) hs hg
 ·by_cases e:k=i
  ·subst e;rw[ht] at hu;cases hu;exact hd j s hjk hs p4
  ·exact h.dif j k s u hjk (by omega) hs hu p4 q4
theorem TgU.done (h:TgU n cd ts fs ts.length) (hl:ts.length=fs.length):∃ R,bI n cd ts fs=some R:=by
 have hlay:dW n cd (ts.zip fs) 0 []=some (fy cd (ts.zip fs) 0):=by
  rw[px _ _ _ (fun x hx=>?_) (by
   rw[jJ ts fs 0 hl];have:=h.few;unfold onC at this;rw[Qas] at this
   simpa using this)]
  ·rfl
  ·obtain⟨j,hj⟩:=Qcy hx;obtain⟨a,b⟩:=fg (t:=x.1) (f:=x.2) |>.1 hj
   exact h.ok j _ _ (Qh a).1 a b
 have hne:(fy cd (ts.zip fs) 0).Pairwise fun a b=>a.st≠b.st:=by
  refine Qck (fun {a b} ha hb q=>?_) (xL (cd:=cd) (ts.zip fs) 0).2;obtain⟨j,t,f,a1,a2,a3⟩:=je _ _ _ ha;obtain⟨k,s,g,b1,b2,b3⟩:=je _ _ _ hb;rw[a3,b3] at q ⊢;simp only at q ⊢;exact h.dif j k t s (by omega) (Qh (fg.1 b1).1).1 (fg.1 a1).1 (fg.1 b1).1 a2 b2
 have hp:(sortR (fy cd (ts.zip fs) 0)).Perm (fy cd (ts.zip fs) 0):=Qd1 _ _;have h1:(sortR (fy cd (ts.zip fs) 0)).Pairwise fun a b=>a.st≤b.st:=(List.pairwise_mergeSort (le:=fun a b:Rw=>decide (a.st≤b.st)) (fun a b c h1 h2=>by simp only[decide_eq_true_eq] at *;omega) (fun a b=>by simp only[Bool.or_eq_true,decide_eq_true_eq];omega) _).imp (fun {a b} q=>by simpa using q);have h2:(sortR (fy cd (ts.zip fs) 0)).Pairwise fun a b=>a.st≠b.st:=(hp.pairwise_iff (fun {a b} q e=>q e.symm)).2 hne;refine⟨sortR (fy cd (ts.zip fs) 0),?_⟩;unfold bI;rw[if_pos hl,hlay];exact if_pos (oZ _ (Qbm.2 ((h1.and h2).imp (fun {a b} q=>by omega))))
section
variable {n:Int} {cd:Int→Hd×List Pt} {ts:List Th} {fs:List Fe}
theorem jN (h:∀ R,¬Tab n cd ts fs R):bI n cd ts fs=none:=by
 cases q:bI n cd ts fs with
 | none=>rfl
 | some R=>exact absurd (Tab.of q) (h R)
theorem El (h:¬ts.length=fs.length):bI n cd ts fs=none:=jN fun _ q=>h q.len
theorem oR (ht:ts[i]?=some t) (h:cR n t=false):bI n cd ts fs=none:=jN fun R q=>by
 have:=(q.mays ht (Qg (show i<fs.length by rw[←q.len];exact(Qh ht).1))).1;rw[h] at this;cases this
theorem nd (ht:ts[i]?=some t) (hf:fs[i]?=some f) (h4:t.place=4) (h:bq t f=false):bI n cd ts fs=none:=jN fun R q=>by
 have:=((q.mays ht hf).2 h4).1;rw[h] at this;cases this
theorem G9 (ht:ts[i]?=some t) (hf:fs[i]?=some f) (h4:t.place=4) (h:(cd t.card).1.kd=2):bI n cd ts fs=none:=jN fun _ q=>((q.mays ht hf).2 h4).2 h
theorem Fs (h:16<onC ts i):bI n cd ts fs=none:=jN fun R q=>by
 have h1:=q.few;have h2:=q.perm.length_eq;rw[jJ ts fs 0 q.len] at h2;have h3:=GF ts i;have h4:onC ts ts.length=(ts.filter fun t=>decide (t.place=4)).length:=by unfold onC;rw[Qas]
 omega
theorem FS {s:Th} (hjk:j<k) (ht:ts[j]?=some t) (hs:ts[k]?=some s) (p4:t.place=4) (q4:s.place=4) (h:t.stamp=s.stamp):bI n cd ts fs=none:=jN fun R q=>by
 have a:=q.row_in ht p4;have b:=q.row_in hs q4;have:=I7 q.up a b h;injection this with e _ _ _;omega
end
